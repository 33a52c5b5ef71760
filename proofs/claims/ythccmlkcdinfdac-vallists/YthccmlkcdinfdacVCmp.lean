/- The contracts of val's Cmp and Equal, of values that may be. -/
import Derived.Test.YthccmlkcdinfdacVOrd
import Derived.Test.YthccmlkcdinfdacVIs
import Derived.Test.YthccmlkcdinfdacKeep
import Derived.Deep.RegionHeld3
import Derived.Deep.DrawnRows
namespace Go.Proofs.Ythccmlkcdinfdac
open Go.RowKit
attribute [local go_sem ↓] Go.wp_at_zero Go.wp_at_succ

set_option maxHeartbeats 2000000 in
theorem vcmp_any (x y : VT) (w : World) (hx : x.okB 2 = true) (hy : y.okB 2 = true) (hin : x.In w) (hin' : y.In w) :
    Calls Try.prog 9 #[x.val, y.val] w fun e w' => e = .returned (.int .i64 (x.cmp y)) ∧ Below w.heap.size w w' := by
  cases x with
  | none => exact absurd hin (by simp [VT.In])
  | mk k b m s t a len cap kid =>
    cases y with
    | none => exact absurd hin' (by simp [VT.In])
    | mk k' b' m' s' t' a' len' cap' kid' =>
      show Calls Try.prog 9 #[.agg #[.int .i64 k, .bool b, .int .i64 m, .int .i64 s, .string t, .slice a len cap], .agg #[.int .i64 k', .bool b', .int .i64 m', .int .i64 s', .string t', .slice a' len' cap']] w _
      have b0 := below2 w (Obj.cells #[.int .i64 k, .bool b, .int .i64 m, .int .i64 s, .string t, .slice a len cap] 26) (Obj.cells #[.int .i64 k', .bool b', .int .i64 m', .int .i64 s', .string t', .slice a' len' cap'] 26)
      have hin1 := hin.below b0
      have hin1' := hin'.below b0
      have H1 := fun w (h : (VT.mk k b m s t a len cap kid).In w) => vis_any _ w h
      have H2 := fun w (h : (VT.mk k' b' m' s' t' a' len' cap' kid').In w) => vis_any _ w h
      rw [hx] at H1
      rw [hy] at H2
      have H3 := fun w h h' => order_any (VT.mk k b m s t a len cap kid) (VT.mk k' b' m' s' t' a' len' cap' kid') 2 2 w hx hy h h'
      generalize (VT.mk k b m s t a len cap kid).cmp (VT.mk k' b' m' s' t' a' len' cap' kid') = R at *
      have HH1 := hide H1
      have HH2 := hide H2
      have HH3 := hide H3
      clear H1 H2 H3 hx hy hin hin'
      go_enter Try.func9, Try.ntmps9
      go_wp2_with fail
      have x0 : ((w.alloc (Obj.cells #[.int .i64 k, .bool b, .int .i64 m, .int .i64 s, .string t, .slice a len cap] 26)).alloc (Obj.cells #[.int .i64 k', .bool b', .int .i64 m', .int .i64 s', .string t', .slice a' len' cap'] 26)).cell? ⟨w.heap.size, 0, none⟩ = some (.int .i64 k) := by go_simp
      have x1 : ((w.alloc (Obj.cells #[.int .i64 k, .bool b, .int .i64 m, .int .i64 s, .string t, .slice a len cap] 26)).alloc (Obj.cells #[.int .i64 k', .bool b', .int .i64 m', .int .i64 s', .string t', .slice a' len' cap'] 26)).cell? ⟨w.heap.size, 1, none⟩ = some (.bool b) := by go_simp
      have x2 : ((w.alloc (Obj.cells #[.int .i64 k, .bool b, .int .i64 m, .int .i64 s, .string t, .slice a len cap] 26)).alloc (Obj.cells #[.int .i64 k', .bool b', .int .i64 m', .int .i64 s', .string t', .slice a' len' cap'] 26)).cell? ⟨w.heap.size, 2, none⟩ = some (.int .i64 m) := by go_simp
      have x3 : ((w.alloc (Obj.cells #[.int .i64 k, .bool b, .int .i64 m, .int .i64 s, .string t, .slice a len cap] 26)).alloc (Obj.cells #[.int .i64 k', .bool b', .int .i64 m', .int .i64 s', .string t', .slice a' len' cap'] 26)).cell? ⟨w.heap.size, 3, none⟩ = some (.int .i64 s) := by go_simp
      have x4 : ((w.alloc (Obj.cells #[.int .i64 k, .bool b, .int .i64 m, .int .i64 s, .string t, .slice a len cap] 26)).alloc (Obj.cells #[.int .i64 k', .bool b', .int .i64 m', .int .i64 s', .string t', .slice a' len' cap'] 26)).cell? ⟨w.heap.size, 4, none⟩ = some (.string t) := by go_simp
      have x5 : ((w.alloc (Obj.cells #[.int .i64 k, .bool b, .int .i64 m, .int .i64 s, .string t, .slice a len cap] 26)).alloc (Obj.cells #[.int .i64 k', .bool b', .int .i64 m', .int .i64 s', .string t', .slice a' len' cap'] 26)).cell? ⟨w.heap.size, 5, none⟩ = some (.slice a len cap) := by go_simp
      have x6 : ((w.alloc (Obj.cells #[.int .i64 k, .bool b, .int .i64 m, .int .i64 s, .string t, .slice a len cap] 26)).alloc (Obj.cells #[.int .i64 k', .bool b', .int .i64 m', .int .i64 s', .string t', .slice a' len' cap'] 26)).cell? ⟨w.heap.size + 1, 0, none⟩ = some (.int .i64 k') := by go_simp
      have x7 : ((w.alloc (Obj.cells #[.int .i64 k, .bool b, .int .i64 m, .int .i64 s, .string t, .slice a len cap] 26)).alloc (Obj.cells #[.int .i64 k', .bool b', .int .i64 m', .int .i64 s', .string t', .slice a' len' cap'] 26)).cell? ⟨w.heap.size + 1, 1, none⟩ = some (.bool b') := by go_simp
      have x8 : ((w.alloc (Obj.cells #[.int .i64 k, .bool b, .int .i64 m, .int .i64 s, .string t, .slice a len cap] 26)).alloc (Obj.cells #[.int .i64 k', .bool b', .int .i64 m', .int .i64 s', .string t', .slice a' len' cap'] 26)).cell? ⟨w.heap.size + 1, 2, none⟩ = some (.int .i64 m') := by go_simp
      have x9 : ((w.alloc (Obj.cells #[.int .i64 k, .bool b, .int .i64 m, .int .i64 s, .string t, .slice a len cap] 26)).alloc (Obj.cells #[.int .i64 k', .bool b', .int .i64 m', .int .i64 s', .string t', .slice a' len' cap'] 26)).cell? ⟨w.heap.size + 1, 3, none⟩ = some (.int .i64 s') := by go_simp
      have x10 : ((w.alloc (Obj.cells #[.int .i64 k, .bool b, .int .i64 m, .int .i64 s, .string t, .slice a len cap] 26)).alloc (Obj.cells #[.int .i64 k', .bool b', .int .i64 m', .int .i64 s', .string t', .slice a' len' cap'] 26)).cell? ⟨w.heap.size + 1, 4, none⟩ = some (.string t') := by go_simp
      have x11 : ((w.alloc (Obj.cells #[.int .i64 k, .bool b, .int .i64 m, .int .i64 s, .string t, .slice a len cap] 26)).alloc (Obj.cells #[.int .i64 k', .bool b', .int .i64 m', .int .i64 s', .string t', .slice a' len' cap'] 26)).cell? ⟨w.heap.size + 1, 5, none⟩ = some (.slice a' len' cap') := by go_simp
      have z1 : w.heap.size + 1 < ((w.alloc (Obj.cells #[.int .i64 k, .bool b, .int .i64 m, .int .i64 s, .string t, .slice a len cap] 26)).alloc (Obj.cells #[.int .i64 k', .bool b', .int .i64 m', .int .i64 s', .string t', .slice a' len' cap'] 26)).heap.size := by simp
      generalize hV : ((w.alloc (Obj.cells #[.int .i64 k, .bool b, .int .i64 m, .int .i64 s, .string t, .slice a len cap] 26)).alloc (Obj.cells #[.int .i64 k', .bool b', .int .i64 m', .int .i64 s', .string t', .slice a' len' cap'] 26)) = V at *
      clear hV
      generalize hB : w.heap.size = B at *
      have HB := hide hB
      have B0 := hide b0
      have HI := hide hin1
      have HI' := hide hin1'
      clear hB b0 hin1 hin1'
      have S0 : Hid (Below V.heap.size V V.drew ∧ V.drew.cell? ⟨B, 0, none⟩ = some (.int .i64 k) ∧ V.drew.cell? ⟨B, 1, none⟩ = some (.bool b) ∧ V.drew.cell? ⟨B, 2, none⟩ = some (.int .i64 m) ∧ V.drew.cell? ⟨B, 3, none⟩ = some (.int .i64 s) ∧ V.drew.cell? ⟨B, 4, none⟩ = some (.string t) ∧ V.drew.cell? ⟨B, 5, none⟩ = some (.slice a len cap) ∧ V.drew.cell? ⟨B + 1, 0, none⟩ = some (.int .i64 k') ∧ V.drew.cell? ⟨B + 1, 1, none⟩ = some (.bool b') ∧ V.drew.cell? ⟨B + 1, 2, none⟩ = some (.int .i64 m') ∧ V.drew.cell? ⟨B + 1, 3, none⟩ = some (.int .i64 s') ∧ V.drew.cell? ⟨B + 1, 4, none⟩ = some (.string t') ∧ V.drew.cell? ⟨B + 1, 5, none⟩ = some (.slice a' len' cap')) := ⟨(Below.refl _ _).drew, x0, x1, x2, x3, x4, x5, x6, x7, x8, x9, x10, x11⟩
      have SK : Hid (∀ x w', (Below V.heap.size V x ∧ x.cell? ⟨B, 0, none⟩ = some (.int .i64 k) ∧ x.cell? ⟨B, 1, none⟩ = some (.bool b) ∧ x.cell? ⟨B, 2, none⟩ = some (.int .i64 m) ∧ x.cell? ⟨B, 3, none⟩ = some (.int .i64 s) ∧ x.cell? ⟨B, 4, none⟩ = some (.string t) ∧ x.cell? ⟨B, 5, none⟩ = some (.slice a len cap) ∧ x.cell? ⟨B + 1, 0, none⟩ = some (.int .i64 k') ∧ x.cell? ⟨B + 1, 1, none⟩ = some (.bool b') ∧ x.cell? ⟨B + 1, 2, none⟩ = some (.int .i64 m') ∧ x.cell? ⟨B + 1, 3, none⟩ = some (.int .i64 s') ∧ x.cell? ⟨B + 1, 4, none⟩ = some (.string t') ∧ x.cell? ⟨B + 1, 5, none⟩ = some (.slice a' len' cap')) → Below x.heap.size x w' → (Below V.heap.size V w' ∧ w'.cell? ⟨B, 0, none⟩ = some (.int .i64 k) ∧ w'.cell? ⟨B, 1, none⟩ = some (.bool b) ∧ w'.cell? ⟨B, 2, none⟩ = some (.int .i64 m) ∧ w'.cell? ⟨B, 3, none⟩ = some (.int .i64 s) ∧ w'.cell? ⟨B, 4, none⟩ = some (.string t) ∧ w'.cell? ⟨B, 5, none⟩ = some (.slice a len cap) ∧ w'.cell? ⟨B + 1, 0, none⟩ = some (.int .i64 k') ∧ w'.cell? ⟨B + 1, 1, none⟩ = some (.bool b') ∧ w'.cell? ⟨B + 1, 2, none⟩ = some (.int .i64 m') ∧ w'.cell? ⟨B + 1, 3, none⟩ = some (.int .i64 s') ∧ w'.cell? ⟨B + 1, 4, none⟩ = some (.string t') ∧ w'.cell? ⟨B + 1, 5, none⟩ = some (.slice a' len' cap'))) := by
        rintro x w' ⟨h0, h1, h2, h3, h4, h5, h6, h7, h8, h9, h10, h11, h12⟩ kk
        have z0 := h0.size
        exact ⟨bstep h0 kk, kcell kk (by omega) h1, kcell kk (by omega) h2, kcell kk (by omega) h3, kcell kk (by omega) h4, kcell kk (by omega) h5, kcell kk (by omega) h6, kcell kk (by omega) h7, kcell kk (by omega) h8, kcell kk (by omega) h9, kcell kk (by omega) h10, kcell kk (by omega) h11, kcell kk (by omega) h12⟩
      go_region_held3 (fun w' => Below V.heap.size V w' ∧ w'.cell? ⟨B, 0, none⟩ = some (.int .i64 k) ∧ w'.cell? ⟨B, 1, none⟩ = some (.bool b) ∧ w'.cell? ⟨B, 2, none⟩ = some (.int .i64 m) ∧ w'.cell? ⟨B, 3, none⟩ = some (.int .i64 s) ∧ w'.cell? ⟨B, 4, none⟩ = some (.string t) ∧ w'.cell? ⟨B, 5, none⟩ = some (.slice a len cap) ∧ w'.cell? ⟨B + 1, 0, none⟩ = some (.int .i64 k') ∧ w'.cell? ⟨B + 1, 1, none⟩ = some (.bool b') ∧ w'.cell? ⟨B + 1, 2, none⟩ = some (.int .i64 m') ∧ w'.cell? ⟨B + 1, 3, none⟩ = some (.int .i64 s') ∧ w'.cell? ⟨B + 1, 4, none⟩ = some (.string t') ∧ w'.cell? ⟨B + 1, 5, none⟩ = some (.slice a' len' cap'))
        (first | exact unhide S0 | assumption | exact unhide SK _ _ (by assumption) k4)
        (first | (go_at_call_of 20 ([.agg #[.int .i64 k, .bool b, .int .i64 m, .int .i64 s, .string t, .slice a len cap]] : List Value); refine (unhide HH1 _ ?_).mono ?_; exact (unhide HI).below (And.left (by assumption)); rintro e w4 ⟨rfl, k4⟩) | (go_at_call_of 20 ([.agg #[.int .i64 k', .bool b', .int .i64 m', .int .i64 s', .string t', .slice a' len' cap']] : List Value); refine (unhide HH2 _ ?_).mono ?_; exact (unhide HI').below (And.left (by assumption)); rintro e w4 ⟨rfl, k4⟩))
      all_goals
        go_wp2_with fail
        refine (unhide HH3 _ ?_ ?_).mono ?_
        · exact (unhide HI).below (And.left (by assumption))
        · exact (unhide HI').below (And.left (by assumption))
        rintro e w5 ⟨rfl, k5⟩
        go_wp2_with fail
        go_ret
        refine ⟨rfl, ?_⟩
        have b := unhide B0
        rw [← unhide HB] at b
        exact bstep b (bstep (And.left (by assumption)) k5)

set_option maxHeartbeats 1000000 in
theorem vequal_any (x y : VT) (w : World) (hx : x.okB 2 = true) (hy : y.okB 2 = true) (hin : x.In w) (hin' : y.In w) :
    Calls Try.prog 16 #[x.val, y.val] w fun e w' => e = .returned (.bool (x.cmp y == 0)) ∧ Below w.heap.size w w' := by
  cases x with
  | none => exact absurd hin (by simp [VT.In])
  | mk k b m s t a len cap kid =>
    cases y with
    | none => exact absurd hin' (by simp [VT.In])
    | mk k' b' m' s' t' a' len' cap' kid' =>
      show Calls Try.prog 16 #[.agg #[.int .i64 k, .bool b, .int .i64 m, .int .i64 s, .string t, .slice a len cap], .agg #[.int .i64 k', .bool b', .int .i64 m', .int .i64 s', .string t', .slice a' len' cap']] w _
      have b0 := below2 w (Obj.cells #[.int .i64 k, .bool b, .int .i64 m, .int .i64 s, .string t, .slice a len cap] 26) (Obj.cells #[.int .i64 k', .bool b', .int .i64 m', .int .i64 s', .string t', .slice a' len' cap'] 26)
      have H := hide (vcmp_any _ _ _ hx hy (hin.below b0) (hin'.below b0))
      generalize (VT.mk k b m s t a len cap kid).cmp (VT.mk k' b' m' s' t' a' len' cap' kid') = R at *
      clear hin hin' hx hy
      go_enter Try.func16, Try.ntmps16
      go_wp2_with fail
      refine (unhide H).mono ?_
      rintro e w1 ⟨rfl, k1⟩
      go_wp2_with fail
      go_ret
      exact ⟨rfl, bstep b0 k1⟩
end Go.Proofs.Ythccmlkcdinfdac

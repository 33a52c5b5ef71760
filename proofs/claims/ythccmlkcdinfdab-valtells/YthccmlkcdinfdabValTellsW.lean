/- ValTells' walk: all that is told of two values is the document's. -/
import Derived.Test.YthccmlkcdinfdabVKnown
import Derived.Test.YthccmlkcdinfdabVRLogic
import Derived.Test.YthccmlkcdinfdabVLeaf
import Derived.Test.YthccmlkcdinfdabVMay
import Derived.Test.YthccmlkcdinfdabVCmp
import Derived.Test.YthccmlkcdinfdabVRCmp
namespace Go.Proofs.Ythccmlkcdinfdab
open Go.RowKit
attribute [local go_sem ↓] Go.wp_at_zero Go.wp_at_succ

set_option maxHeartbeats 8000000 in
theorem valTells_walk (x y : VT) (w : World) (hin : x.In w) (hin' : y.In w) :
    Calls Try.prog 7 #[x.val, y.val] w fun e w' => e = .returned (.bool true) ∧ Below w.heap.size w w' := by
  cases x with
  | none => exact absurd hin (by simp [VT.In])
  | mk k b m s t a len cap kid =>
  cases y with
  | none => exact absurd hin' (by simp [VT.In])
  | mk k' b' m' s' t' a' len' cap' kid' =>
    show Calls Try.prog 7 #[.agg #[.int .i64 k, .bool b, .int .i64 m, .int .i64 s, .string t, .slice a len cap], .agg #[.int .i64 k', .bool b', .int .i64 m', .int .i64 s', .string t', .slice a' len' cap']] w _
    have b0 := below2 w (Obj.cells #[.int .i64 k, .bool b, .int .i64 m, .int .i64 s, .string t, .slice a len cap] 32) (Obj.cells #[.int .i64 k', .bool b', .int .i64 m', .int .i64 s', .string t', .slice a' len' cap'] 32)
    have i1 := hin.below b0
    have i2 := hin'.below b0
    go_enter Try.func7, Try.ntmps7
    go_wp2_with fail
    refine (vmay2 (by simp) i1 i2).mono ?_
    rintro e V ⟨⟨r, rfl, hr⟩, hb⟩
    have B0 := hide (bstep b0 hb)
    have HI1 := hide (i1.below hb)
    have HI2 := hide (i2.below hb)
    have z1 : w.heap.size + 1 < V.heap.size := by have := hb.size; simp at this; omega
    have x0 : V.cell? ⟨w.heap.size, 0, none⟩ = some (.int .i64 k) := kcell hb (by simp; try omega) (by go_simp)
    have x1 : V.cell? ⟨w.heap.size, 1, none⟩ = some (.bool b) := kcell hb (by simp; try omega) (by go_simp)
    have x2 : V.cell? ⟨w.heap.size, 2, none⟩ = some (.int .i64 m) := kcell hb (by simp; try omega) (by go_simp)
    have x3 : V.cell? ⟨w.heap.size, 3, none⟩ = some (.int .i64 s) := kcell hb (by simp; try omega) (by go_simp)
    have x4 : V.cell? ⟨w.heap.size, 4, none⟩ = some (.string t) := kcell hb (by simp; try omega) (by go_simp)
    have x5 : V.cell? ⟨w.heap.size, 5, none⟩ = some (.slice a len cap) := kcell hb (by simp; try omega) (by go_simp)
    have x6 : V.cell? ⟨w.heap.size + 1, 0, none⟩ = some (.int .i64 k') := kcell hb (by simp; try omega) (by go_simp)
    have x7 : V.cell? ⟨w.heap.size + 1, 1, none⟩ = some (.bool b') := kcell hb (by simp; try omega) (by go_simp)
    have x8 : V.cell? ⟨w.heap.size + 1, 2, none⟩ = some (.int .i64 m') := kcell hb (by simp; try omega) (by go_simp)
    have x9 : V.cell? ⟨w.heap.size + 1, 3, none⟩ = some (.int .i64 s') := kcell hb (by simp; try omega) (by go_simp)
    have x10 : V.cell? ⟨w.heap.size + 1, 4, none⟩ = some (.string t') := kcell hb (by simp; try omega) (by go_simp)
    have x11 : V.cell? ⟨w.heap.size + 1, 5, none⟩ = some (.slice a' len' cap') := kcell hb (by simp; try omega) (by go_simp)
    clear hb b0 i1 i2 hin hin'
    cases r
    · clear hr
      go_wp2_with fail
      go_ret
      exact ⟨rfl, unhide B0⟩
    obtain ⟨hx, hy⟩ := hr rfl
    have c1 := fun w h h' => vcmp_any (VT.mk k b m s t a len cap kid) (VT.mk k' b' m' s' t' a' len' cap' kid') w hx hy h h'
    have c2 := fun w h h' => rCmp_any (VT.mk k b m s t a len cap kid) (VT.mk k' b' m' s' t' a' len' cap' kid') 2 2 w hx hy h h'
    have c3 := fun w h h' => vequal_any (VT.mk k b m s t a len cap kid) (VT.mk k' b' m' s' t' a' len' cap' kid') w hx hy h h'
    have c4 := fun w h h' => rEqual_any (VT.mk k b m s t a len cap kid) (VT.mk k' b' m' s' t' a' len' cap' kid') w hx hy h h'
    have c5 := fun w => truth_any k b m s t a len cap w
    have c6 := fun w => rtruth_any k b m s t a len cap w
    have c7 := fun w => and_any k b m s t a len cap k' b' m' s' t' a' len' cap' w
    have c8 := fun w => rand_any k b m s t a len cap k' b' m' s' t' a' len' cap' w
    have c9 := fun w => or_any k b m s t a len cap k' b' m' s' t' a' len' cap' w
    have c10 := fun w => ror_any k b m s t a len cap k' b' m' s' t' a' len' cap' w
    have c11 := fun w => not_any k b m s t a len cap w
    have c12 := fun w => rnot_any k b m s t a len cap w
    have d1 := andK_01 (unB k b) (unB k' b') (trB k b) (trB k' b')
    have d2 := orK_01 (trB k b) (trB k' b') (unB k b) (unB k' b')
    have d3 := notK_01 k
    generalize (VT.mk k b m s t a len cap kid).cmp (VT.mk k' b' m' s' t' a' len' cap' kid') = R at *
    generalize (R == 0) = RE at *
    generalize andK (unB k b) (unB k' b') (trB k b) (trB k' b') = KA at *
    generalize andB (unB k b) (unB k' b') (trB k b) (trB k' b') = BA at *
    generalize orK (trB k b) (trB k' b') (unB k b) (unB k' b') = KO at *
    generalize orB (trB k b) (trB k' b') = BO at *
    generalize notK k = KN at *
    generalize notB k b = BN at *
    generalize trB k b = RT at *
    have c13 := fun w => same_leaf KA BA w d1
    have c14 := fun w => same_leaf KO BO w d2
    have c15 := fun w => same_leaf KN BN w d3
    generalize tval KA BA = VA at *
    generalize tval KO BO = VO at *
    generalize tval KN BN = VN at *
    have H1 := hide c1
    have H2 := hide c2
    have H3 := hide c3
    have H4 := hide c4
    have H5 := hide c5
    have H6 := hide c6
    have H7 := hide c7
    have H8 := hide c8
    have H9 := hide c9
    have H10 := hide c10
    have H11 := hide c11
    have H12 := hide c12
    have H13 := hide c13
    have H14 := hide c14
    have H15 := hide c15
    clear c1 c2 c3 c4 c5 c6 c7 c8 c9 c10 c11 c12 c13 c14 c15 d1 d2 d3 hr hx hy
    generalize hB : w.heap.size = B at *
    have HB := hide hB
    clear hB
    have S0 : Hid (Below V.heap.size V V.drew ∧ V.drew.cell? ⟨B, 0, none⟩ = some (.int .i64 k) ∧ V.drew.cell? ⟨B, 1, none⟩ = some (.bool b) ∧ V.drew.cell? ⟨B, 2, none⟩ = some (.int .i64 m) ∧ V.drew.cell? ⟨B, 3, none⟩ = some (.int .i64 s) ∧ V.drew.cell? ⟨B, 4, none⟩ = some (.string t) ∧ V.drew.cell? ⟨B, 5, none⟩ = some (.slice a len cap) ∧ V.drew.cell? ⟨B + 1, 0, none⟩ = some (.int .i64 k') ∧ V.drew.cell? ⟨B + 1, 1, none⟩ = some (.bool b') ∧ V.drew.cell? ⟨B + 1, 2, none⟩ = some (.int .i64 m') ∧ V.drew.cell? ⟨B + 1, 3, none⟩ = some (.int .i64 s') ∧ V.drew.cell? ⟨B + 1, 4, none⟩ = some (.string t') ∧ V.drew.cell? ⟨B + 1, 5, none⟩ = some (.slice a' len' cap')) := ⟨(Below.refl _ _).drew, x0, x1, x2, x3, x4, x5, x6, x7, x8, x9, x10, x11⟩
    have SK : Hid (∀ x w', (Below V.heap.size V x ∧ x.cell? ⟨B, 0, none⟩ = some (.int .i64 k) ∧ x.cell? ⟨B, 1, none⟩ = some (.bool b) ∧ x.cell? ⟨B, 2, none⟩ = some (.int .i64 m) ∧ x.cell? ⟨B, 3, none⟩ = some (.int .i64 s) ∧ x.cell? ⟨B, 4, none⟩ = some (.string t) ∧ x.cell? ⟨B, 5, none⟩ = some (.slice a len cap) ∧ x.cell? ⟨B + 1, 0, none⟩ = some (.int .i64 k') ∧ x.cell? ⟨B + 1, 1, none⟩ = some (.bool b') ∧ x.cell? ⟨B + 1, 2, none⟩ = some (.int .i64 m') ∧ x.cell? ⟨B + 1, 3, none⟩ = some (.int .i64 s') ∧ x.cell? ⟨B + 1, 4, none⟩ = some (.string t') ∧ x.cell? ⟨B + 1, 5, none⟩ = some (.slice a' len' cap')) → Below x.heap.size x w' → (Below V.heap.size V w' ∧ w'.cell? ⟨B, 0, none⟩ = some (.int .i64 k) ∧ w'.cell? ⟨B, 1, none⟩ = some (.bool b) ∧ w'.cell? ⟨B, 2, none⟩ = some (.int .i64 m) ∧ w'.cell? ⟨B, 3, none⟩ = some (.int .i64 s) ∧ w'.cell? ⟨B, 4, none⟩ = some (.string t) ∧ w'.cell? ⟨B, 5, none⟩ = some (.slice a len cap) ∧ w'.cell? ⟨B + 1, 0, none⟩ = some (.int .i64 k') ∧ w'.cell? ⟨B + 1, 1, none⟩ = some (.bool b') ∧ w'.cell? ⟨B + 1, 2, none⟩ = some (.int .i64 m') ∧ w'.cell? ⟨B + 1, 3, none⟩ = some (.int .i64 s') ∧ w'.cell? ⟨B + 1, 4, none⟩ = some (.string t') ∧ w'.cell? ⟨B + 1, 5, none⟩ = some (.slice a' len' cap'))) := by
      rintro x w' ⟨h0, h1, h2, h3, h4, h5, h6, h7, h8, h9, h10, h11, h12⟩ kk
      have z0 := h0.size
      exact ⟨bstep h0 kk, kcell kk (by omega) h1, kcell kk (by omega) h2, kcell kk (by omega) h3, kcell kk (by omega) h4, kcell kk (by omega) h5, kcell kk (by omega) h6, kcell kk (by omega) h7, kcell kk (by omega) h8, kcell kk (by omega) h9, kcell kk (by omega) h10, kcell kk (by omega) h11, kcell kk (by omega) h12⟩
    go_wp2_with fail
    (try dsimp only [List.append])
    go_region_held3 (fun w' => Below V.heap.size V w' ∧ w'.cell? ⟨B, 0, none⟩ = some (.int .i64 k) ∧ w'.cell? ⟨B, 1, none⟩ = some (.bool b) ∧ w'.cell? ⟨B, 2, none⟩ = some (.int .i64 m) ∧ w'.cell? ⟨B, 3, none⟩ = some (.int .i64 s) ∧ w'.cell? ⟨B, 4, none⟩ = some (.string t) ∧ w'.cell? ⟨B, 5, none⟩ = some (.slice a len cap) ∧ w'.cell? ⟨B + 1, 0, none⟩ = some (.int .i64 k') ∧ w'.cell? ⟨B + 1, 1, none⟩ = some (.bool b') ∧ w'.cell? ⟨B + 1, 2, none⟩ = some (.int .i64 m') ∧ w'.cell? ⟨B + 1, 3, none⟩ = some (.int .i64 s') ∧ w'.cell? ⟨B + 1, 4, none⟩ = some (.string t') ∧ w'.cell? ⟨B + 1, 5, none⟩ = some (.slice a' len' cap'))
      (first | exact unhide S0 | assumption | exact unhide SK _ _ (by assumption) k4)
      (first | (go_at_call 17; refine (unhide H1 _ ?_ ?_).mono ?_; exact (unhide HI1).below (And.left (by assumption)); exact (unhide HI2).below (And.left (by assumption)); rintro e w4 ⟨rfl, k4⟩) | (go_at_call 18; refine (unhide H2 _ ?_ ?_).mono ?_; exact (unhide HI1).below (And.left (by assumption)); exact (unhide HI2).below (And.left (by assumption)); rintro e w4 ⟨rfl, k4⟩) | (go_at_call 19; refine (unhide H3 _ ?_ ?_).mono ?_; exact (unhide HI1).below (And.left (by assumption)); exact (unhide HI2).below (And.left (by assumption)); rintro e w4 ⟨rfl, k4⟩) | (go_at_call 20; refine (unhide H4 _ ?_ ?_).mono ?_; exact (unhide HI1).below (And.left (by assumption)); exact (unhide HI2).below (And.left (by assumption)); rintro e w4 ⟨rfl, k4⟩) | (go_at_call 21; refine (unhide H5 _).mono ?_; rintro e w4 ⟨rfl, k4⟩) | (go_at_call 22; refine (unhide H6 _).mono ?_; rintro e w4 ⟨rfl, k4⟩) | (go_at_call 24; refine (unhide H7 _).mono ?_; rintro e w4 ⟨rfl, k4⟩) | (go_at_call 25; refine (unhide H8 _).mono ?_; rintro e w4 ⟨rfl, k4⟩) | (go_at_call 26; refine (unhide H9 _).mono ?_; rintro e w4 ⟨rfl, k4⟩) | (go_at_call 27; refine (unhide H10 _).mono ?_; rintro e w4 ⟨rfl, k4⟩) | (go_at_call 28; refine (unhide H11 _).mono ?_; rintro e w4 ⟨rfl, k4⟩) | (go_at_call 29; refine (unhide H12 _).mono ?_; rintro e w4 ⟨rfl, k4⟩) | (go_at_call_of 23 ([VA, VA] : List Value); refine (unhide H13 _).mono ?_; rintro e w4 ⟨rfl, k4⟩) | (go_at_call_of 23 ([VO, VO] : List Value); refine (unhide H14 _).mono ?_; rintro e w4 ⟨rfl, k4⟩) | (go_at_call_of 23 ([VN, VN] : List Value); refine (unhide H15 _).mono ?_; rintro e w4 ⟨rfl, k4⟩) | (go_at_call 15; refine (known_any _).mono ?_; rintro e w4 ⟨rfl, k4⟩))
    all_goals
      go_wp2
      go_ret
      refine ⟨rfl, ?_⟩
      have b := unhide B0
      rw [← unhide HB] at b
      exact bstep b (And.left (by assumption))
end Go.Proofs.Ythccmlkcdinfdab

/- ValLogic's walk: what holds of three values. -/
import Derived.Test.YthccmlkcdinfdacVKnown
import Derived.Test.YthccmlkcdinfdacVLogMath2
import Derived.Test.YthccmlkcdinfdacVMay
import Derived.Test.YthccmlkcdinfdacVOwn
import Derived.Test.YthccmlkcdinfdacRegMan
import Derived.Deep.RegionHeld3
import Derived.Deep.DrawnRows
import Derived.Deep.CutBlock
import Derived.Deep.DeepCutAuto
namespace Go.Proofs.Ythccmlkcdinfdac
open Go.RowKit
attribute [local go_sem ↓] Go.wp_at_zero Go.wp_at_succ

set_option maxHeartbeats 8000000 in
theorem valLogic_walk (x y : VT) (w : World) (hin : x.In w) (hin' : y.In w) :
    Calls Try.prog 4 #[x.val, y.val] w fun e w' => e = .returned (.bool true) ∧ Below w.heap.size w w' := by
  cases x with
  | none => exact absurd hin (by simp [VT.In])
  | mk k b m s t a len cap kid =>
  cases y with
  | none => exact absurd hin' (by simp [VT.In])
  | mk k' b' m' s' t' a' len' cap' kid' =>
    show Calls Try.prog 4 #[.agg #[.int .i64 k, .bool b, .int .i64 m, .int .i64 s, .string t, .slice a len cap], .agg #[.int .i64 k', .bool b', .int .i64 m', .int .i64 s', .string t', .slice a' len' cap']] w _
    have b0 := below2 w (Obj.cells #[.int .i64 k, .bool b, .int .i64 m, .int .i64 s, .string t, .slice a len cap] 26) (Obj.cells #[.int .i64 k', .bool b', .int .i64 m', .int .i64 s', .string t', .slice a' len' cap'] 26)
    have i1 := hin.below b0
    have i2 := hin'.below b0
    go_enter Try.func4, Try.ntmps4
    go_wp2_with fail
    refine (vmay2 (by simp) i1 i2).mono ?_
    rintro e V ⟨⟨r, rfl, hr⟩, hb⟩
    have B0 := hide (bstep b0 hb)
    have HI1 := hide (i1.below hb)
    have z1 : w.heap.size + 1 < V.heap.size := by have := hb.size; simp at this; omega
    have x0 : V.cell? ⟨w.heap.size, 0, none⟩ = some (.int .i64 k) := kcell hb (by simp; try omega) (by go_simp)
    have x1 : V.cell? ⟨w.heap.size, 1, none⟩ = some (.bool b) := kcell hb (by simp; try omega) (by go_simp)
    have x2 : V.cell? ⟨w.heap.size, 2, none⟩ = some (.int .i64 m) := kcell hb (by simp; try omega) (by go_simp)
    have x3 : V.cell? ⟨w.heap.size, 3, none⟩ = some (.int .i64 s) := kcell hb (by simp; try omega) (by go_simp)
    have x4 : V.cell? ⟨w.heap.size, 4, none⟩ = some (.string t) := kcell hb (by simp; try omega) (by go_simp)
    have x5 : V.cell? ⟨w.heap.size, 5, none⟩ = some (.slice a len cap) := kcell hb (by simp; try omega) (by go_simp)
    have x6 : V.cell? ⟨w.heap.size + 1, 0, none⟩ = some (.int .i64 k') := kcell hb (by simp; try omega) (by go_simp)
    have x7 : V.cell? ⟨w.heap.size + 1, 1, none⟩ = some (.bool b') := kcell hb (by simp; try omega) (by go_simp)
    have x8 : V.cell? ⟨w.heap.size + 1, 2, none⟩ = some (.int .i64 m') := kcell hb (by simp; try omega) (by go_simp)
    have x9 : V.cell? ⟨w.heap.size + 1, 3, none⟩ = some (.int .i64 s') := kcell hb (by simp; try omega) (by go_simp)
    have x10 : V.cell? ⟨w.heap.size + 1, 4, none⟩ = some (.string t') := kcell hb (by simp; try omega) (by go_simp)
    have x11 : V.cell? ⟨w.heap.size + 1, 5, none⟩ = some (.slice a' len' cap') := kcell hb (by simp; try omega) (by go_simp)
    clear hb b0 i1 i2 hin hin'
    cases r
    · clear hr
      go_wp2_with fail
      go_ret
      exact ⟨rfl, unhide B0⟩
    have hx := (hr rfl).1
    clear hr
    have c1 := fun w => and_any k b m s t a len cap k' b' m' s' t' a' len' cap' w
    have c2 := fun w => or_any k b m s t a len cap k' b' m' s' t' a' len' cap' w
    have c3 := fun w => and_any k' b' m' s' t' a' len' cap' k b m s t a len cap w
    have c4 := fun w => or_any k' b' m' s' t' a' len' cap' k b m s t a len cap w
    have c5 := fun w => not_any k b m s t a len cap w
    have c6 := fun w => not_any k' b' m' s' t' a' len' cap' w
    have c7 := fun w => or_any (notK k) (notB k b) 0 0 ⟨#[]⟩ none 0 0 (notK k') (notB k' b') 0 0 ⟨#[]⟩ none 0 0 w
    have c8 := fun w => not_any (andK (unB k b) (unB k' b') (trB k b) (trB k' b')) (andB (unB k b) (unB k' b') (trB k b) (trB k' b')) 0 0 ⟨#[]⟩ none 0 0 w
    rw [andK_comm, andB_comm] at c3
    rw [orK_comm, orB_comm] at c4
    rw [(morgan k k' b b').1, (morgan k k' b b').2] at c7
    have c9 := fun w => same_leaf (andK (unB k b) (unB k' b') (trB k b) (trB k' b')) (andB (unB k b) (unB k' b') (trB k b) (trB k' b')) w (andK_01 _ _ _ _)
    have c10 := fun w => same_leaf (orK (trB k b) (trB k' b') (unB k b) (unB k' b')) (orB (trB k b) (trB k' b')) w (orK_01 _ _ _ _)
    have c11 := fun w => same_leaf (notK (andK (unB k b) (unB k' b') (trB k b) (trB k' b'))) (notB (andK (unB k b) (unB k' b') (trB k b) (trB k' b')) (andB (unB k b) (unB k' b') (trB k b) (trB k' b'))) w (notK_01 _)
    have d1 := andK_01 (unB k b) (unB k' b') (trB k b) (trB k' b')
    have c12 : k = 1 → (∀ w, Calls Try.prog 14 #[tval (notK k) (notB k b)] w fun e w' => e = .returned (tval 1 b) ∧ Below w.heap.size w w') ∧ (∀ w, (VT.mk k b m s t a len cap kid).In w → Calls Try.prog 10 #[tval 1 b, .agg #[.int .i64 k, .bool b, .int .i64 m, .int .i64 s, .string t, .slice a len cap]] w fun e w' => e = .returned (.bool true) ∧ Below w.heap.size w w') := by
      rintro rfl
      refine ⟨fun w => ?_, fun w hw => ?_⟩
      · have h := not_any (notK 1) (notB 1 b) 0 0 ⟨#[]⟩ none 0 0 w
        rw [(not_not b).1, (not_not b).2] at h
        exact h
      · have h := same_any (twig 1 b) _ w (twig_in b (Or.inr rfl) w) hw
        rw [same_bool hx] at h
        exact h
    generalize notK (andK (unB k b) (unB k' b') (trB k b) (trB k' b')) = KR at *
    generalize notB (andK (unB k b) (unB k' b') (trB k b) (trB k' b')) (andB (unB k b) (unB k' b') (trB k b) (trB k' b')) = BR at *
    generalize andK (unB k b) (unB k' b') (trB k b) (trB k' b') = KA at *
    generalize andB (unB k b) (unB k' b') (trB k b) (trB k' b') = BA at *
    generalize orK (trB k b) (trB k' b') (unB k b) (unB k' b') = KO at *
    generalize orB (trB k b) (trB k' b') = BO at *
    generalize notK k = KN at *
    generalize notB k b = BN at *
    generalize notK k' = KM at *
    generalize notB k' b' = BM at *
    unfold tval at c1 c2 c3 c4 c5 c6 c7 c8 c9 c10 c11 c12
    have H1 := hide c1
    have H2 := hide c2
    have H3 := hide c3
    have H4 := hide c4
    have H5 := hide c5
    have H6 := hide c6
    have H7 := hide c7
    have H8 := hide c8
    have H9 := hide c9
    have H10 := hide c10
    have H11 := hide c11
    have H12 := hide c12
    clear c1 c2 c3 c4 c5 c6 c7 c8 c9 c10 c11 c12 hx
    generalize hB : w.heap.size = B at *
    have HB := hide hB
    clear hB
    have hds : ∀ x : World, x.drew.heap.size = x.heap.size := fun _ => rfl
    have SK : Hid (∀ w', Below V.heap.size V w' → (Below V.heap.size V w' ∧ w'.cell? ⟨B, 0, none⟩ = some (.int .i64 k) ∧ w'.cell? ⟨B, 1, none⟩ = some (.bool b) ∧ w'.cell? ⟨B, 2, none⟩ = some (.int .i64 m) ∧ w'.cell? ⟨B, 3, none⟩ = some (.int .i64 s) ∧ w'.cell? ⟨B, 4, none⟩ = some (.string t) ∧ w'.cell? ⟨B, 5, none⟩ = some (.slice a len cap) ∧ w'.cell? ⟨B + 1, 0, none⟩ = some (.int .i64 k') ∧ w'.cell? ⟨B + 1, 1, none⟩ = some (.bool b') ∧ w'.cell? ⟨B + 1, 2, none⟩ = some (.int .i64 m') ∧ w'.cell? ⟨B + 1, 3, none⟩ = some (.int .i64 s') ∧ w'.cell? ⟨B + 1, 4, none⟩ = some (.string t') ∧ w'.cell? ⟨B + 1, 5, none⟩ = some (.slice a' len' cap'))) := by
      intro w' kk
      exact ⟨kk, kcell kk (by omega) x0, kcell kk (by omega) x1, kcell kk (by omega) x2, kcell kk (by omega) x3, kcell kk (by omega) x4, kcell kk (by omega) x5, kcell kk (by omega) x6, kcell kk (by omega) x7, kcell kk (by omega) x8, kcell kk (by omega) x9, kcell kk (by omega) x10, kcell kk (by omega) x11⟩
    go_upto_region 3 with fail
    go_cut [5, 6] (fun f c wx => ∃ bf bc : Nat, f = .pointer (some ⟨bf, 0, none⟩) ∧ c = .pointer (some ⟨bc, 0, none⟩) ∧ VT.Six wx bf 0 KA BA 0 0 ⟨#[]⟩ none 0 0 ∧ VT.Six wx bc 0 KO BO 0 0 ⟨#[]⟩ none 0 0 ∧ Below V.heap.size V wx)
    case first =>
      refine wp_region_noPanic ?_
      refine wp_region_held_drew (S := fun w' => Below V.heap.size V w' ∧ w'.cell? ⟨B, 0, none⟩ = some (.int .i64 k) ∧ w'.cell? ⟨B, 1, none⟩ = some (.bool b) ∧ w'.cell? ⟨B, 2, none⟩ = some (.int .i64 m) ∧ w'.cell? ⟨B, 3, none⟩ = some (.int .i64 s) ∧ w'.cell? ⟨B, 4, none⟩ = some (.string t) ∧ w'.cell? ⟨B, 5, none⟩ = some (.slice a len cap) ∧ w'.cell? ⟨B + 1, 0, none⟩ = some (.int .i64 k') ∧ w'.cell? ⟨B + 1, 1, none⟩ = some (.bool b') ∧ w'.cell? ⟨B + 1, 2, none⟩ = some (.int .i64 m') ∧ w'.cell? ⟨B + 1, 3, none⟩ = some (.int .i64 s') ∧ w'.cell? ⟨B + 1, 4, none⟩ = some (.string t') ∧ w'.cell? ⟨B + 1, 5, none⟩ = some (.slice a' len' cap')) (by kernel_rfl) ?hS0a (fun hHeld => ?_)
      case hS0a => exact unhide SK _ (Below.refl _ _).drew
      generalize V.drew = u0a at *
      refine takeAt 0 (some 14) ?va0 ⟨_, rfl, rfl, rfl, ?hya0⟩ (by kernel_rfl) (by kernel_rfl) (by kernel_rfl) (fun _ _ _ h => h) (by assumption) ?_
      case hya0 => (intro w0 hSw; (try dsimp only at hSw); go_simp; try (with_reducible rfl))
      simp only [Act.put, List.setIfInBounds_toArray, List.set_cons_zero, List.set_cons_succ]
      refine takeAt 1 (some 15) ?va1 ⟨_, rfl, rfl, rfl, ?hya1⟩ (by kernel_rfl) (by kernel_rfl) (by kernel_rfl) (fun _ _ _ h => h) (by assumption) ?_
      case hya1 => (intro w0 hSw; (try dsimp only at hSw); go_simp; try (with_reducible rfl))
      simp only [Act.put, List.setIfInBounds_toArray, List.set_cons_zero, List.set_cons_succ]
      refine takeAt 3 (some 17) ?va3 ⟨_, rfl, rfl, rfl, ?hya3⟩ (by kernel_rfl) (by kernel_rfl) (by kernel_rfl) (fun _ _ _ h => h) (by assumption) ?_
      case hya3 => (intro w0 hSw; (try dsimp only at hSw); go_simp; try (with_reducible rfl))
      simp only [Act.put, List.setIfInBounds_toArray, List.set_cons_zero, List.set_cons_succ]
      refine takeAt 4 (some 18) ?va4 ⟨_, rfl, rfl, rfl, ?hya4⟩ (by kernel_rfl) (by kernel_rfl) (by kernel_rfl) (fun _ _ _ h => h) (by assumption) ?_
      case hya4 => (intro w0 hSw; (try dsimp only at hSw); go_simp; try (with_reducible rfl))
      simp only [Act.put, List.setIfInBounds_toArray, List.set_cons_zero, List.set_cons_succ]
      refine wpAnyH_ready (rs := [2, 6, 7]) (by kernel_rfl) (by simp) ?_
      refine AllReadyH.cons rfl (fun K0 hK0 => ?_) (AllReadyH.cons rfl (fun K0 hK0 => ?_) (AllReadyH.cons rfl (fun K0 hK0 => ?_) AllReadyH.nil))
      · skip
        go_simp
        refine (unhide H1 _).mono ?_
        rintro e u1a ⟨rfl, j1a⟩
        go_wp2_with fail
        refine hK0.out _ _ ?hS1a (fun hHeld1 => ?_)
        case hS1a => exact unhide SK _ (keep_call hHeld j1a)
        clear hK0 K0
        clear hHeld 
        have hHeld := hHeld1
        clear hHeld1
        try simp only [Act.put, List.setIfInBounds_toArray, List.set_cons_zero, List.set_cons_succ]
        refine wpAnyH_ready (rs := [5, 6, 7]) (by kernel_rfl) (by simp) ?_
        refine AllReadyH.cons rfl (fun K0 hK0 => ?_) (AllReadyH.cons rfl (fun K0 hK0 => ?_) (AllReadyH.cons rfl (fun K0 hK0 => ?_) AllReadyH.nil))
        · skip
          go_simp
          refine (unhide H2 _).mono ?_
          rintro e u2a ⟨rfl, j2a⟩
          go_wp2_with fail
          refine hK0.out _ _ ?hS2a (fun hHeld1 => ?_)
          case hS2a => exact unhide SK _ (keep_call hHeld j2a)
          clear hK0 K0
          clear hHeld 
          have hHeld := hHeld1
          clear hHeld1
          try simp only [Act.put, List.setIfInBounds_toArray, List.set_cons_zero, List.set_cons_succ]
          refine wpAnyH_ready (rs := [6, 7]) (by kernel_rfl) (by simp) ?_
          refine AllReadyH.cons rfl (fun K0 hK0 => ?_) (AllReadyH.cons rfl (fun K0 hK0 => ?_) AllReadyH.nil)
          · skip
            go_simp
            refine hK0.out _ _ ?hS3a (fun hHeld1 => ?_)
            case hS3a => exact unhide SK _ (keep_alloc hHeld _)
            clear hK0 K0
            have j3a := below1 u2a (Obj.cells #[.int .i64 0, .bool false, .int .i64 0, .int .i64 0, .string ⟨#[]⟩, .slice none 0 0] 26)
            have z3a : V.heap.size ≤ u2a.heap.size := hHeld.1.size
            have o3pa := Own.new u2a 26
            generalize u2a.alloc (Obj.cells #[.int .i64 0, .bool false, .int .i64 0, .int .i64 0, .string ⟨#[]⟩, .slice none 0 0] 26) = u3a at *
            clear hHeld 
            have hHeld := hHeld1
            clear hHeld1
            try simp only [Act.put, List.setIfInBounds_toArray, List.set_cons_zero, List.set_cons_succ]
            refine wpAnyH_ready (rs := [7]) (by kernel_rfl) (by simp) ?_
            refine AllReadyH.cons rfl (fun K0 hK0 => ?_) AllReadyH.nil
            · skip
              go_simp
              refine hK0.out _ _ ?hS4a (fun hHeld1 => ?_)
              case hS4a => exact unhide SK _ (keep_alloc hHeld _)
              clear hK0 K0
              have j4a := below1 u3a (Obj.cells #[.int .i64 0, .bool false, .int .i64 0, .int .i64 0, .string ⟨#[]⟩, .slice none 0 0] 26)
              have z4a : V.heap.size ≤ u3a.heap.size := hHeld.1.size
              have o4qa := Own.new u3a 26
              have o4pa := o3pa.below j4a
              have ne4pa : u2a.heap.size ≠ u3a.heap.size := Nat.ne_of_lt o3pa.1.1
              generalize u3a.alloc (Obj.cells #[.int .i64 0, .bool false, .int .i64 0, .int .i64 0, .string ⟨#[]⟩, .slice none 0 0] 26) = u4a at *
              clear hHeld o3pa
              have hHeld := hHeld1
              clear hHeld1
              try simp only [Act.put, List.setIfInBounds_toArray, List.set_cons_zero, List.set_cons_succ]
              refine wpAnyH_ready (rs := [8]) (by kernel_rfl) (by simp) ?_
              refine AllReadyH.cons rfl (fun K0 hK0 => ?_) AllReadyH.nil
              · skip
                obtain ⟨⟨-, e0, e1, e2, e3, e4, e5⟩, f0, f1, f2, f3, f4, f5⟩ := id o4pa
                simp only [Nat.zero_add] at e0 e1 e2 e3 e4 e5
                go_simp
                clear e0 e1 e2 e3 e4 e5 f0 f1 f2 f3 f4 f5
                refine hK0.out _ _ ?hS5a (fun hHeld1 => ?_)
                case hS5a => exact unhide SK _ (set6 hHeld.1 (by omega) _ _ _ _ _ _)
                clear hK0 K0
                have s5pa := Own.put o4pa KA BA 0 0 ⟨#[]⟩ none 0 0
                have o5qa := Own.other o4qa (show u3a.heap.size ≠ u2a.heap.size by first | assumption | (intro e; omega)) (.int .i64 KA) (.bool BA) (.int .i64 0) (.int .i64 0) (.string ⟨#[]⟩) (.slice none 0 0)
                generalize ((((((u4a.setCell ⟨u2a.heap.size, 0, none⟩ (.int .i64 KA)).setCell ⟨u2a.heap.size, 1, none⟩ (.bool BA)).setCell ⟨u2a.heap.size, 2, none⟩ (.int .i64 0)).setCell ⟨u2a.heap.size, 3, none⟩ (.int .i64 0)).setCell ⟨u2a.heap.size, 4, none⟩ (.string ⟨#[]⟩)).setCell ⟨u2a.heap.size, 5, none⟩ (.slice none 0 0)) = u5a at *
                clear hHeld o4pa o4qa
                have hHeld := hHeld1
                clear hHeld1
                try simp only [Act.put, List.setIfInBounds_toArray, List.set_cons_zero, List.set_cons_succ]
                refine wpAnyH_ready (rs := [9]) (by kernel_rfl) (by simp) ?_
                refine AllReadyH.cons rfl (fun K0 hK0 => ?_) AllReadyH.nil
                · skip
                  obtain ⟨⟨-, e0, e1, e2, e3, e4, e5⟩, f0, f1, f2, f3, f4, f5⟩ := id o5qa
                  simp only [Nat.zero_add] at e0 e1 e2 e3 e4 e5
                  go_simp
                  clear e0 e1 e2 e3 e4 e5 f0 f1 f2 f3 f4 f5
                  refine hK0.out _ _ ?hS6a (fun hHeld1 => ?_)
                  case hS6a => exact unhide SK _ (set6 hHeld.1 (by omega) _ _ _ _ _ _)
                  clear hK0 K0
                  have s6qa := Own.put o5qa KO BO 0 0 ⟨#[]⟩ none 0 0
                  have s6pa := six_other s5pa (show u2a.heap.size ≠ u3a.heap.size by first | assumption | (intro e; omega)) (.int .i64 KO) (.bool BO) (.int .i64 0) (.int .i64 0) (.string ⟨#[]⟩) (.slice none 0 0)
                  generalize ((((((u5a.setCell ⟨u3a.heap.size, 0, none⟩ (.int .i64 KO)).setCell ⟨u3a.heap.size, 1, none⟩ (.bool BO)).setCell ⟨u3a.heap.size, 2, none⟩ (.int .i64 0)).setCell ⟨u3a.heap.size, 3, none⟩ (.int .i64 0)).setCell ⟨u3a.heap.size, 4, none⟩ (.string ⟨#[]⟩)).setCell ⟨u3a.heap.size, 5, none⟩ (.slice none 0 0)) = u6a at *
                  clear hHeld o5qa s5pa
                  have hHeld := hHeld1
                  clear hHeld1
                  try simp only [Act.put, List.setIfInBounds_toArray, List.set_cons_zero, List.set_cons_succ]
                  refine wpAnyH_done (by kernel_rfl) ?_ _
                  refine NoPanic.normal ?_
                  go_wp2_with fail
                  go_meet
                  exact ⟨_, _, rfl, rfl, s6pa, s6qa, hHeld.1⟩
          · skip
            go_simp
            refine hK0.out _ _ ?hS7a (fun hHeld1 => ?_)
            case hS7a => exact unhide SK _ (keep_alloc hHeld _)
            clear hK0 K0
            have j7a := below1 u2a (Obj.cells #[.int .i64 0, .bool false, .int .i64 0, .int .i64 0, .string ⟨#[]⟩, .slice none 0 0] 26)
            have z7a : V.heap.size ≤ u2a.heap.size := hHeld.1.size
            have o7qa := Own.new u2a 26
            generalize u2a.alloc (Obj.cells #[.int .i64 0, .bool false, .int .i64 0, .int .i64 0, .string ⟨#[]⟩, .slice none 0 0] 26) = u7a at *
            clear hHeld 
            have hHeld := hHeld1
            clear hHeld1
            try simp only [Act.put, List.setIfInBounds_toArray, List.set_cons_zero, List.set_cons_succ]
            refine wpAnyH_ready (rs := [6]) (by kernel_rfl) (by simp) ?_
            refine AllReadyH.cons rfl (fun K0 hK0 => ?_) AllReadyH.nil
            · skip
              go_simp
              refine hK0.out _ _ ?hS8a (fun hHeld1 => ?_)
              case hS8a => exact unhide SK _ (keep_alloc hHeld _)
              clear hK0 K0
              have j8a := below1 u7a (Obj.cells #[.int .i64 0, .bool false, .int .i64 0, .int .i64 0, .string ⟨#[]⟩, .slice none 0 0] 26)
              have z8a : V.heap.size ≤ u7a.heap.size := hHeld.1.size
              have o8pa := Own.new u7a 26
              have o8qa := o7qa.below j8a
              have ne8qa : u2a.heap.size ≠ u7a.heap.size := Nat.ne_of_lt o7qa.1.1
              generalize u7a.alloc (Obj.cells #[.int .i64 0, .bool false, .int .i64 0, .int .i64 0, .string ⟨#[]⟩, .slice none 0 0] 26) = u8a at *
              clear hHeld o7qa
              have hHeld := hHeld1
              clear hHeld1
              try simp only [Act.put, List.setIfInBounds_toArray, List.set_cons_zero, List.set_cons_succ]
              refine wpAnyH_ready (rs := [8]) (by kernel_rfl) (by simp) ?_
              refine AllReadyH.cons rfl (fun K0 hK0 => ?_) AllReadyH.nil
              · skip
                obtain ⟨⟨-, e0, e1, e2, e3, e4, e5⟩, f0, f1, f2, f3, f4, f5⟩ := id o8pa
                simp only [Nat.zero_add] at e0 e1 e2 e3 e4 e5
                go_simp
                clear e0 e1 e2 e3 e4 e5 f0 f1 f2 f3 f4 f5
                refine hK0.out _ _ ?hS9a (fun hHeld1 => ?_)
                case hS9a => exact unhide SK _ (set6 hHeld.1 (by omega) _ _ _ _ _ _)
                clear hK0 K0
                have s9pa := Own.put o8pa KA BA 0 0 ⟨#[]⟩ none 0 0
                have o9qa := Own.other o8qa (show u2a.heap.size ≠ u7a.heap.size by first | assumption | (intro e; omega)) (.int .i64 KA) (.bool BA) (.int .i64 0) (.int .i64 0) (.string ⟨#[]⟩) (.slice none 0 0)
                generalize ((((((u8a.setCell ⟨u7a.heap.size, 0, none⟩ (.int .i64 KA)).setCell ⟨u7a.heap.size, 1, none⟩ (.bool BA)).setCell ⟨u7a.heap.size, 2, none⟩ (.int .i64 0)).setCell ⟨u7a.heap.size, 3, none⟩ (.int .i64 0)).setCell ⟨u7a.heap.size, 4, none⟩ (.string ⟨#[]⟩)).setCell ⟨u7a.heap.size, 5, none⟩ (.slice none 0 0)) = u9a at *
                clear hHeld o8qa o8pa
                have hHeld := hHeld1
                clear hHeld1
                try simp only [Act.put, List.setIfInBounds_toArray, List.set_cons_zero, List.set_cons_succ]
                refine wpAnyH_ready (rs := [9]) (by kernel_rfl) (by simp) ?_
                refine AllReadyH.cons rfl (fun K0 hK0 => ?_) AllReadyH.nil
                · skip
                  obtain ⟨⟨-, e0, e1, e2, e3, e4, e5⟩, f0, f1, f2, f3, f4, f5⟩ := id o9qa
                  simp only [Nat.zero_add] at e0 e1 e2 e3 e4 e5
                  go_simp
                  clear e0 e1 e2 e3 e4 e5 f0 f1 f2 f3 f4 f5
                  refine hK0.out _ _ ?hS10a (fun hHeld1 => ?_)
                  case hS10a => exact unhide SK _ (set6 hHeld.1 (by omega) _ _ _ _ _ _)
                  clear hK0 K0
                  have s10qa := Own.put o9qa KO BO 0 0 ⟨#[]⟩ none 0 0
                  have s10pa := six_other s9pa (show u7a.heap.size ≠ u2a.heap.size by first | assumption | (intro e; omega)) (.int .i64 KO) (.bool BO) (.int .i64 0) (.int .i64 0) (.string ⟨#[]⟩) (.slice none 0 0)
                  generalize ((((((u9a.setCell ⟨u2a.heap.size, 0, none⟩ (.int .i64 KO)).setCell ⟨u2a.heap.size, 1, none⟩ (.bool BO)).setCell ⟨u2a.heap.size, 2, none⟩ (.int .i64 0)).setCell ⟨u2a.heap.size, 3, none⟩ (.int .i64 0)).setCell ⟨u2a.heap.size, 4, none⟩ (.string ⟨#[]⟩)).setCell ⟨u2a.heap.size, 5, none⟩ (.slice none 0 0)) = u10a at *
                  clear hHeld o9qa s9pa
                  have hHeld := hHeld1
                  clear hHeld1
                  try simp only [Act.put, List.setIfInBounds_toArray, List.set_cons_zero, List.set_cons_succ]
                  refine wpAnyH_done (by kernel_rfl) ?_ _
                  refine NoPanic.normal ?_
                  go_wp2_with fail
                  go_meet
                  exact ⟨_, _, rfl, rfl, s10pa, s10qa, hHeld.1⟩
        · skip
          go_simp
          refine hK0.out _ _ ?hS11a (fun hHeld1 => ?_)
          case hS11a => exact unhide SK _ (keep_alloc hHeld _)
          clear hK0 K0
          have j11a := below1 u1a (Obj.cells #[.int .i64 0, .bool false, .int .i64 0, .int .i64 0, .string ⟨#[]⟩, .slice none 0 0] 26)
          have z11a : V.heap.size ≤ u1a.heap.size := hHeld.1.size
          have o11pa := Own.new u1a 26
          generalize u1a.alloc (Obj.cells #[.int .i64 0, .bool false, .int .i64 0, .int .i64 0, .string ⟨#[]⟩, .slice none 0 0] 26) = u11a at *
          clear hHeld 
          have hHeld := hHeld1
          clear hHeld1
          try simp only [Act.put, List.setIfInBounds_toArray, List.set_cons_zero, List.set_cons_succ]
          refine wpAnyH_ready (rs := [5, 7]) (by kernel_rfl) (by simp) ?_
          refine AllReadyH.cons rfl (fun K0 hK0 => ?_) (AllReadyH.cons rfl (fun K0 hK0 => ?_) AllReadyH.nil)
          · skip
            go_simp
            refine (unhide H2 _).mono ?_
            rintro e u12a ⟨rfl, j12a⟩
            go_wp2_with fail
            refine hK0.out _ _ ?hS12a (fun hHeld1 => ?_)
            case hS12a => exact unhide SK _ (keep_call hHeld j12a)
            clear hK0 K0
            have o12pa := o11pa.below j12a
            clear hHeld o11pa
            have hHeld := hHeld1
            clear hHeld1
            try simp only [Act.put, List.setIfInBounds_toArray, List.set_cons_zero, List.set_cons_succ]
            refine wpAnyH_ready (rs := [7]) (by kernel_rfl) (by simp) ?_
            refine AllReadyH.cons rfl (fun K0 hK0 => ?_) AllReadyH.nil
            · skip
              go_simp
              refine hK0.out _ _ ?hS13a (fun hHeld1 => ?_)
              case hS13a => exact unhide SK _ (keep_alloc hHeld _)
              clear hK0 K0
              have j13a := below1 u12a (Obj.cells #[.int .i64 0, .bool false, .int .i64 0, .int .i64 0, .string ⟨#[]⟩, .slice none 0 0] 26)
              have z13a : V.heap.size ≤ u12a.heap.size := hHeld.1.size
              have o13qa := Own.new u12a 26
              have o13pa := o12pa.below j13a
              have ne13pa : u1a.heap.size ≠ u12a.heap.size := Nat.ne_of_lt o12pa.1.1
              generalize u12a.alloc (Obj.cells #[.int .i64 0, .bool false, .int .i64 0, .int .i64 0, .string ⟨#[]⟩, .slice none 0 0] 26) = u13a at *
              clear hHeld o12pa
              have hHeld := hHeld1
              clear hHeld1
              try simp only [Act.put, List.setIfInBounds_toArray, List.set_cons_zero, List.set_cons_succ]
              refine wpAnyH_ready (rs := [8]) (by kernel_rfl) (by simp) ?_
              refine AllReadyH.cons rfl (fun K0 hK0 => ?_) AllReadyH.nil
              · skip
                obtain ⟨⟨-, e0, e1, e2, e3, e4, e5⟩, f0, f1, f2, f3, f4, f5⟩ := id o13pa
                simp only [Nat.zero_add] at e0 e1 e2 e3 e4 e5
                go_simp
                clear e0 e1 e2 e3 e4 e5 f0 f1 f2 f3 f4 f5
                refine hK0.out _ _ ?hS14a (fun hHeld1 => ?_)
                case hS14a => exact unhide SK _ (set6 hHeld.1 (by omega) _ _ _ _ _ _)
                clear hK0 K0
                have s14pa := Own.put o13pa KA BA 0 0 ⟨#[]⟩ none 0 0
                have o14qa := Own.other o13qa (show u12a.heap.size ≠ u1a.heap.size by first | assumption | (intro e; omega)) (.int .i64 KA) (.bool BA) (.int .i64 0) (.int .i64 0) (.string ⟨#[]⟩) (.slice none 0 0)
                generalize ((((((u13a.setCell ⟨u1a.heap.size, 0, none⟩ (.int .i64 KA)).setCell ⟨u1a.heap.size, 1, none⟩ (.bool BA)).setCell ⟨u1a.heap.size, 2, none⟩ (.int .i64 0)).setCell ⟨u1a.heap.size, 3, none⟩ (.int .i64 0)).setCell ⟨u1a.heap.size, 4, none⟩ (.string ⟨#[]⟩)).setCell ⟨u1a.heap.size, 5, none⟩ (.slice none 0 0)) = u14a at *
                clear hHeld o13pa o13qa
                have hHeld := hHeld1
                clear hHeld1
                try simp only [Act.put, List.setIfInBounds_toArray, List.set_cons_zero, List.set_cons_succ]
                refine wpAnyH_ready (rs := [9]) (by kernel_rfl) (by simp) ?_
                refine AllReadyH.cons rfl (fun K0 hK0 => ?_) AllReadyH.nil
                · skip
                  obtain ⟨⟨-, e0, e1, e2, e3, e4, e5⟩, f0, f1, f2, f3, f4, f5⟩ := id o14qa
                  simp only [Nat.zero_add] at e0 e1 e2 e3 e4 e5
                  go_simp
                  clear e0 e1 e2 e3 e4 e5 f0 f1 f2 f3 f4 f5
                  refine hK0.out _ _ ?hS15a (fun hHeld1 => ?_)
                  case hS15a => exact unhide SK _ (set6 hHeld.1 (by omega) _ _ _ _ _ _)
                  clear hK0 K0
                  have s15qa := Own.put o14qa KO BO 0 0 ⟨#[]⟩ none 0 0
                  have s15pa := six_other s14pa (show u1a.heap.size ≠ u12a.heap.size by first | assumption | (intro e; omega)) (.int .i64 KO) (.bool BO) (.int .i64 0) (.int .i64 0) (.string ⟨#[]⟩) (.slice none 0 0)
                  generalize ((((((u14a.setCell ⟨u12a.heap.size, 0, none⟩ (.int .i64 KO)).setCell ⟨u12a.heap.size, 1, none⟩ (.bool BO)).setCell ⟨u12a.heap.size, 2, none⟩ (.int .i64 0)).setCell ⟨u12a.heap.size, 3, none⟩ (.int .i64 0)).setCell ⟨u12a.heap.size, 4, none⟩ (.string ⟨#[]⟩)).setCell ⟨u12a.heap.size, 5, none⟩ (.slice none 0 0)) = u15a at *
                  clear hHeld o14qa s14pa
                  have hHeld := hHeld1
                  clear hHeld1
                  try simp only [Act.put, List.setIfInBounds_toArray, List.set_cons_zero, List.set_cons_succ]
                  refine wpAnyH_done (by kernel_rfl) ?_ _
                  refine NoPanic.normal ?_
                  go_wp2_with fail
                  go_meet
                  exact ⟨_, _, rfl, rfl, s15pa, s15qa, hHeld.1⟩
          · skip
            go_simp
            refine hK0.out _ _ ?hS16a (fun hHeld1 => ?_)
            case hS16a => exact unhide SK _ (keep_alloc hHeld _)
            clear hK0 K0
            have j16a := below1 u11a (Obj.cells #[.int .i64 0, .bool false, .int .i64 0, .int .i64 0, .string ⟨#[]⟩, .slice none 0 0] 26)
            have z16a : V.heap.size ≤ u11a.heap.size := hHeld.1.size
            have o16qa := Own.new u11a 26
            have o16pa := o11pa.below j16a
            have ne16pa : u1a.heap.size ≠ u11a.heap.size := Nat.ne_of_lt o11pa.1.1
            generalize u11a.alloc (Obj.cells #[.int .i64 0, .bool false, .int .i64 0, .int .i64 0, .string ⟨#[]⟩, .slice none 0 0] 26) = u16a at *
            clear hHeld o11pa
            have hHeld := hHeld1
            clear hHeld1
            try simp only [Act.put, List.setIfInBounds_toArray, List.set_cons_zero, List.set_cons_succ]
            refine wpAnyH_ready (rs := [5]) (by kernel_rfl) (by simp) ?_
            refine AllReadyH.cons rfl (fun K0 hK0 => ?_) AllReadyH.nil
            · skip
              go_simp
              refine (unhide H2 _).mono ?_
              rintro e u17a ⟨rfl, j17a⟩
              go_wp2_with fail
              refine hK0.out _ _ ?hS17a (fun hHeld1 => ?_)
              case hS17a => exact unhide SK _ (keep_call hHeld j17a)
              clear hK0 K0
              have o17pa := o16pa.below j17a
              have o17qa := o16qa.below j17a
              clear hHeld o16pa o16qa
              have hHeld := hHeld1
              clear hHeld1
              try simp only [Act.put, List.setIfInBounds_toArray, List.set_cons_zero, List.set_cons_succ]
              refine wpAnyH_ready (rs := [8]) (by kernel_rfl) (by simp) ?_
              refine AllReadyH.cons rfl (fun K0 hK0 => ?_) AllReadyH.nil
              · skip
                obtain ⟨⟨-, e0, e1, e2, e3, e4, e5⟩, f0, f1, f2, f3, f4, f5⟩ := id o17pa
                simp only [Nat.zero_add] at e0 e1 e2 e3 e4 e5
                go_simp
                clear e0 e1 e2 e3 e4 e5 f0 f1 f2 f3 f4 f5
                refine hK0.out _ _ ?hS18a (fun hHeld1 => ?_)
                case hS18a => exact unhide SK _ (set6 hHeld.1 (by omega) _ _ _ _ _ _)
                clear hK0 K0
                have s18pa := Own.put o17pa KA BA 0 0 ⟨#[]⟩ none 0 0
                have o18qa := Own.other o17qa (show u11a.heap.size ≠ u1a.heap.size by first | assumption | (intro e; omega)) (.int .i64 KA) (.bool BA) (.int .i64 0) (.int .i64 0) (.string ⟨#[]⟩) (.slice none 0 0)
                generalize ((((((u17a.setCell ⟨u1a.heap.size, 0, none⟩ (.int .i64 KA)).setCell ⟨u1a.heap.size, 1, none⟩ (.bool BA)).setCell ⟨u1a.heap.size, 2, none⟩ (.int .i64 0)).setCell ⟨u1a.heap.size, 3, none⟩ (.int .i64 0)).setCell ⟨u1a.heap.size, 4, none⟩ (.string ⟨#[]⟩)).setCell ⟨u1a.heap.size, 5, none⟩ (.slice none 0 0)) = u18a at *
                clear hHeld o17pa o17qa
                have hHeld := hHeld1
                clear hHeld1
                try simp only [Act.put, List.setIfInBounds_toArray, List.set_cons_zero, List.set_cons_succ]
                refine wpAnyH_ready (rs := [9]) (by kernel_rfl) (by simp) ?_
                refine AllReadyH.cons rfl (fun K0 hK0 => ?_) AllReadyH.nil
                · skip
                  obtain ⟨⟨-, e0, e1, e2, e3, e4, e5⟩, f0, f1, f2, f3, f4, f5⟩ := id o18qa
                  simp only [Nat.zero_add] at e0 e1 e2 e3 e4 e5
                  go_simp
                  clear e0 e1 e2 e3 e4 e5 f0 f1 f2 f3 f4 f5
                  refine hK0.out _ _ ?hS19a (fun hHeld1 => ?_)
                  case hS19a => exact unhide SK _ (set6 hHeld.1 (by omega) _ _ _ _ _ _)
                  clear hK0 K0
                  have s19qa := Own.put o18qa KO BO 0 0 ⟨#[]⟩ none 0 0
                  have s19pa := six_other s18pa (show u1a.heap.size ≠ u11a.heap.size by first | assumption | (intro e; omega)) (.int .i64 KO) (.bool BO) (.int .i64 0) (.int .i64 0) (.string ⟨#[]⟩) (.slice none 0 0)
                  generalize ((((((u18a.setCell ⟨u11a.heap.size, 0, none⟩ (.int .i64 KO)).setCell ⟨u11a.heap.size, 1, none⟩ (.bool BO)).setCell ⟨u11a.heap.size, 2, none⟩ (.int .i64 0)).setCell ⟨u11a.heap.size, 3, none⟩ (.int .i64 0)).setCell ⟨u11a.heap.size, 4, none⟩ (.string ⟨#[]⟩)).setCell ⟨u11a.heap.size, 5, none⟩ (.slice none 0 0)) = u19a at *
                  clear hHeld o18qa s18pa
                  have hHeld := hHeld1
                  clear hHeld1
                  try simp only [Act.put, List.setIfInBounds_toArray, List.set_cons_zero, List.set_cons_succ]
                  refine wpAnyH_done (by kernel_rfl) ?_ _
                  refine NoPanic.normal ?_
                  go_wp2_with fail
                  go_meet
                  exact ⟨_, _, rfl, rfl, s19pa, s19qa, hHeld.1⟩
        · skip
          go_simp
          refine hK0.out _ _ ?hS20a (fun hHeld1 => ?_)
          case hS20a => exact unhide SK _ (keep_alloc hHeld _)
          clear hK0 K0
          have j20a := below1 u1a (Obj.cells #[.int .i64 0, .bool false, .int .i64 0, .int .i64 0, .string ⟨#[]⟩, .slice none 0 0] 26)
          have z20a : V.heap.size ≤ u1a.heap.size := hHeld.1.size
          have o20qa := Own.new u1a 26
          generalize u1a.alloc (Obj.cells #[.int .i64 0, .bool false, .int .i64 0, .int .i64 0, .string ⟨#[]⟩, .slice none 0 0] 26) = u20a at *
          clear hHeld 
          have hHeld := hHeld1
          clear hHeld1
          try simp only [Act.put, List.setIfInBounds_toArray, List.set_cons_zero, List.set_cons_succ]
          refine wpAnyH_ready (rs := [5, 6]) (by kernel_rfl) (by simp) ?_
          refine AllReadyH.cons rfl (fun K0 hK0 => ?_) (AllReadyH.cons rfl (fun K0 hK0 => ?_) AllReadyH.nil)
          · skip
            go_simp
            refine (unhide H2 _).mono ?_
            rintro e u21a ⟨rfl, j21a⟩
            go_wp2_with fail
            refine hK0.out _ _ ?hS21a (fun hHeld1 => ?_)
            case hS21a => exact unhide SK _ (keep_call hHeld j21a)
            clear hK0 K0
            have o21qa := o20qa.below j21a
            clear hHeld o20qa
            have hHeld := hHeld1
            clear hHeld1
            try simp only [Act.put, List.setIfInBounds_toArray, List.set_cons_zero, List.set_cons_succ]
            refine wpAnyH_ready (rs := [6]) (by kernel_rfl) (by simp) ?_
            refine AllReadyH.cons rfl (fun K0 hK0 => ?_) AllReadyH.nil
            · skip
              go_simp
              refine hK0.out _ _ ?hS22a (fun hHeld1 => ?_)
              case hS22a => exact unhide SK _ (keep_alloc hHeld _)
              clear hK0 K0
              have j22a := below1 u21a (Obj.cells #[.int .i64 0, .bool false, .int .i64 0, .int .i64 0, .string ⟨#[]⟩, .slice none 0 0] 26)
              have z22a : V.heap.size ≤ u21a.heap.size := hHeld.1.size
              have o22pa := Own.new u21a 26
              have o22qa := o21qa.below j22a
              have ne22qa : u1a.heap.size ≠ u21a.heap.size := Nat.ne_of_lt o21qa.1.1
              generalize u21a.alloc (Obj.cells #[.int .i64 0, .bool false, .int .i64 0, .int .i64 0, .string ⟨#[]⟩, .slice none 0 0] 26) = u22a at *
              clear hHeld o21qa
              have hHeld := hHeld1
              clear hHeld1
              try simp only [Act.put, List.setIfInBounds_toArray, List.set_cons_zero, List.set_cons_succ]
              refine wpAnyH_ready (rs := [8]) (by kernel_rfl) (by simp) ?_
              refine AllReadyH.cons rfl (fun K0 hK0 => ?_) AllReadyH.nil
              · skip
                obtain ⟨⟨-, e0, e1, e2, e3, e4, e5⟩, f0, f1, f2, f3, f4, f5⟩ := id o22pa
                simp only [Nat.zero_add] at e0 e1 e2 e3 e4 e5
                go_simp
                clear e0 e1 e2 e3 e4 e5 f0 f1 f2 f3 f4 f5
                refine hK0.out _ _ ?hS23a (fun hHeld1 => ?_)
                case hS23a => exact unhide SK _ (set6 hHeld.1 (by omega) _ _ _ _ _ _)
                clear hK0 K0
                have s23pa := Own.put o22pa KA BA 0 0 ⟨#[]⟩ none 0 0
                have o23qa := Own.other o22qa (show u1a.heap.size ≠ u21a.heap.size by first | assumption | (intro e; omega)) (.int .i64 KA) (.bool BA) (.int .i64 0) (.int .i64 0) (.string ⟨#[]⟩) (.slice none 0 0)
                generalize ((((((u22a.setCell ⟨u21a.heap.size, 0, none⟩ (.int .i64 KA)).setCell ⟨u21a.heap.size, 1, none⟩ (.bool BA)).setCell ⟨u21a.heap.size, 2, none⟩ (.int .i64 0)).setCell ⟨u21a.heap.size, 3, none⟩ (.int .i64 0)).setCell ⟨u21a.heap.size, 4, none⟩ (.string ⟨#[]⟩)).setCell ⟨u21a.heap.size, 5, none⟩ (.slice none 0 0)) = u23a at *
                clear hHeld o22qa o22pa
                have hHeld := hHeld1
                clear hHeld1
                try simp only [Act.put, List.setIfInBounds_toArray, List.set_cons_zero, List.set_cons_succ]
                refine wpAnyH_ready (rs := [9]) (by kernel_rfl) (by simp) ?_
                refine AllReadyH.cons rfl (fun K0 hK0 => ?_) AllReadyH.nil
                · skip
                  obtain ⟨⟨-, e0, e1, e2, e3, e4, e5⟩, f0, f1, f2, f3, f4, f5⟩ := id o23qa
                  simp only [Nat.zero_add] at e0 e1 e2 e3 e4 e5
                  go_simp
                  clear e0 e1 e2 e3 e4 e5 f0 f1 f2 f3 f4 f5
                  refine hK0.out _ _ ?hS24a (fun hHeld1 => ?_)
                  case hS24a => exact unhide SK _ (set6 hHeld.1 (by omega) _ _ _ _ _ _)
                  clear hK0 K0
                  have s24qa := Own.put o23qa KO BO 0 0 ⟨#[]⟩ none 0 0
                  have s24pa := six_other s23pa (show u21a.heap.size ≠ u1a.heap.size by first | assumption | (intro e; omega)) (.int .i64 KO) (.bool BO) (.int .i64 0) (.int .i64 0) (.string ⟨#[]⟩) (.slice none 0 0)
                  generalize ((((((u23a.setCell ⟨u1a.heap.size, 0, none⟩ (.int .i64 KO)).setCell ⟨u1a.heap.size, 1, none⟩ (.bool BO)).setCell ⟨u1a.heap.size, 2, none⟩ (.int .i64 0)).setCell ⟨u1a.heap.size, 3, none⟩ (.int .i64 0)).setCell ⟨u1a.heap.size, 4, none⟩ (.string ⟨#[]⟩)).setCell ⟨u1a.heap.size, 5, none⟩ (.slice none 0 0)) = u24a at *
                  clear hHeld o23qa s23pa
                  have hHeld := hHeld1
                  clear hHeld1
                  try simp only [Act.put, List.setIfInBounds_toArray, List.set_cons_zero, List.set_cons_succ]
                  refine wpAnyH_done (by kernel_rfl) ?_ _
                  refine NoPanic.normal ?_
                  go_wp2_with fail
                  go_meet
                  exact ⟨_, _, rfl, rfl, s24pa, s24qa, hHeld.1⟩
          · skip
            go_simp
            refine hK0.out _ _ ?hS25a (fun hHeld1 => ?_)
            case hS25a => exact unhide SK _ (keep_alloc hHeld _)
            clear hK0 K0
            have j25a := below1 u20a (Obj.cells #[.int .i64 0, .bool false, .int .i64 0, .int .i64 0, .string ⟨#[]⟩, .slice none 0 0] 26)
            have z25a : V.heap.size ≤ u20a.heap.size := hHeld.1.size
            have o25pa := Own.new u20a 26
            have o25qa := o20qa.below j25a
            have ne25qa : u1a.heap.size ≠ u20a.heap.size := Nat.ne_of_lt o20qa.1.1
            generalize u20a.alloc (Obj.cells #[.int .i64 0, .bool false, .int .i64 0, .int .i64 0, .string ⟨#[]⟩, .slice none 0 0] 26) = u25a at *
            clear hHeld o20qa
            have hHeld := hHeld1
            clear hHeld1
            try simp only [Act.put, List.setIfInBounds_toArray, List.set_cons_zero, List.set_cons_succ]
            refine wpAnyH_ready (rs := [5]) (by kernel_rfl) (by simp) ?_
            refine AllReadyH.cons rfl (fun K0 hK0 => ?_) AllReadyH.nil
            · skip
              go_simp
              refine (unhide H2 _).mono ?_
              rintro e u26a ⟨rfl, j26a⟩
              go_wp2_with fail
              refine hK0.out _ _ ?hS26a (fun hHeld1 => ?_)
              case hS26a => exact unhide SK _ (keep_call hHeld j26a)
              clear hK0 K0
              have o26qa := o25qa.below j26a
              have o26pa := o25pa.below j26a
              clear hHeld o25qa o25pa
              have hHeld := hHeld1
              clear hHeld1
              try simp only [Act.put, List.setIfInBounds_toArray, List.set_cons_zero, List.set_cons_succ]
              refine wpAnyH_ready (rs := [8]) (by kernel_rfl) (by simp) ?_
              refine AllReadyH.cons rfl (fun K0 hK0 => ?_) AllReadyH.nil
              · skip
                obtain ⟨⟨-, e0, e1, e2, e3, e4, e5⟩, f0, f1, f2, f3, f4, f5⟩ := id o26pa
                simp only [Nat.zero_add] at e0 e1 e2 e3 e4 e5
                go_simp
                clear e0 e1 e2 e3 e4 e5 f0 f1 f2 f3 f4 f5
                refine hK0.out _ _ ?hS27a (fun hHeld1 => ?_)
                case hS27a => exact unhide SK _ (set6 hHeld.1 (by omega) _ _ _ _ _ _)
                clear hK0 K0
                have s27pa := Own.put o26pa KA BA 0 0 ⟨#[]⟩ none 0 0
                have o27qa := Own.other o26qa (show u1a.heap.size ≠ u20a.heap.size by first | assumption | (intro e; omega)) (.int .i64 KA) (.bool BA) (.int .i64 0) (.int .i64 0) (.string ⟨#[]⟩) (.slice none 0 0)
                generalize ((((((u26a.setCell ⟨u20a.heap.size, 0, none⟩ (.int .i64 KA)).setCell ⟨u20a.heap.size, 1, none⟩ (.bool BA)).setCell ⟨u20a.heap.size, 2, none⟩ (.int .i64 0)).setCell ⟨u20a.heap.size, 3, none⟩ (.int .i64 0)).setCell ⟨u20a.heap.size, 4, none⟩ (.string ⟨#[]⟩)).setCell ⟨u20a.heap.size, 5, none⟩ (.slice none 0 0)) = u27a at *
                clear hHeld o26qa o26pa
                have hHeld := hHeld1
                clear hHeld1
                try simp only [Act.put, List.setIfInBounds_toArray, List.set_cons_zero, List.set_cons_succ]
                refine wpAnyH_ready (rs := [9]) (by kernel_rfl) (by simp) ?_
                refine AllReadyH.cons rfl (fun K0 hK0 => ?_) AllReadyH.nil
                · skip
                  obtain ⟨⟨-, e0, e1, e2, e3, e4, e5⟩, f0, f1, f2, f3, f4, f5⟩ := id o27qa
                  simp only [Nat.zero_add] at e0 e1 e2 e3 e4 e5
                  go_simp
                  clear e0 e1 e2 e3 e4 e5 f0 f1 f2 f3 f4 f5
                  refine hK0.out _ _ ?hS28a (fun hHeld1 => ?_)
                  case hS28a => exact unhide SK _ (set6 hHeld.1 (by omega) _ _ _ _ _ _)
                  clear hK0 K0
                  have s28qa := Own.put o27qa KO BO 0 0 ⟨#[]⟩ none 0 0
                  have s28pa := six_other s27pa (show u20a.heap.size ≠ u1a.heap.size by first | assumption | (intro e; omega)) (.int .i64 KO) (.bool BO) (.int .i64 0) (.int .i64 0) (.string ⟨#[]⟩) (.slice none 0 0)
                  generalize ((((((u27a.setCell ⟨u1a.heap.size, 0, none⟩ (.int .i64 KO)).setCell ⟨u1a.heap.size, 1, none⟩ (.bool BO)).setCell ⟨u1a.heap.size, 2, none⟩ (.int .i64 0)).setCell ⟨u1a.heap.size, 3, none⟩ (.int .i64 0)).setCell ⟨u1a.heap.size, 4, none⟩ (.string ⟨#[]⟩)).setCell ⟨u1a.heap.size, 5, none⟩ (.slice none 0 0)) = u28a at *
                  clear hHeld o27qa s27pa
                  have hHeld := hHeld1
                  clear hHeld1
                  try simp only [Act.put, List.setIfInBounds_toArray, List.set_cons_zero, List.set_cons_succ]
                  refine wpAnyH_done (by kernel_rfl) ?_ _
                  refine NoPanic.normal ?_
                  go_wp2_with fail
                  go_meet
                  exact ⟨_, _, rfl, rfl, s28pa, s28qa, hHeld.1⟩
      · skip
        go_simp
        refine hK0.out _ _ ?hS29a (fun hHeld1 => ?_)
        case hS29a => exact unhide SK _ (keep_alloc hHeld _)
        clear hK0 K0
        have j29a := below1 u0a (Obj.cells #[.int .i64 0, .bool false, .int .i64 0, .int .i64 0, .string ⟨#[]⟩, .slice none 0 0] 26)
        have z29a : V.heap.size ≤ u0a.heap.size := hHeld.1.size
        have o29pa := Own.new u0a 26
        generalize u0a.alloc (Obj.cells #[.int .i64 0, .bool false, .int .i64 0, .int .i64 0, .string ⟨#[]⟩, .slice none 0 0] 26) = u29a at *
        clear hHeld 
        have hHeld := hHeld1
        clear hHeld1
        try simp only [Act.put, List.setIfInBounds_toArray, List.set_cons_zero, List.set_cons_succ]
        refine wpAnyH_ready (rs := [2, 7]) (by kernel_rfl) (by simp) ?_
        refine AllReadyH.cons rfl (fun K0 hK0 => ?_) (AllReadyH.cons rfl (fun K0 hK0 => ?_) AllReadyH.nil)
        · skip
          go_simp
          refine (unhide H1 _).mono ?_
          rintro e u30a ⟨rfl, j30a⟩
          go_wp2_with fail
          refine hK0.out _ _ ?hS30a (fun hHeld1 => ?_)
          case hS30a => exact unhide SK _ (keep_call hHeld j30a)
          clear hK0 K0
          have o30pa := o29pa.below j30a
          clear hHeld o29pa
          have hHeld := hHeld1
          clear hHeld1
          try simp only [Act.put, List.setIfInBounds_toArray, List.set_cons_zero, List.set_cons_succ]
          refine wpAnyH_ready (rs := [5, 7]) (by kernel_rfl) (by simp) ?_
          refine AllReadyH.cons rfl (fun K0 hK0 => ?_) (AllReadyH.cons rfl (fun K0 hK0 => ?_) AllReadyH.nil)
          · skip
            go_simp
            refine (unhide H2 _).mono ?_
            rintro e u31a ⟨rfl, j31a⟩
            go_wp2_with fail
            refine hK0.out _ _ ?hS31a (fun hHeld1 => ?_)
            case hS31a => exact unhide SK _ (keep_call hHeld j31a)
            clear hK0 K0
            have o31pa := o30pa.below j31a
            clear hHeld o30pa
            have hHeld := hHeld1
            clear hHeld1
            try simp only [Act.put, List.setIfInBounds_toArray, List.set_cons_zero, List.set_cons_succ]
            refine wpAnyH_ready (rs := [7]) (by kernel_rfl) (by simp) ?_
            refine AllReadyH.cons rfl (fun K0 hK0 => ?_) AllReadyH.nil
            · skip
              go_simp
              refine hK0.out _ _ ?hS32a (fun hHeld1 => ?_)
              case hS32a => exact unhide SK _ (keep_alloc hHeld _)
              clear hK0 K0
              have j32a := below1 u31a (Obj.cells #[.int .i64 0, .bool false, .int .i64 0, .int .i64 0, .string ⟨#[]⟩, .slice none 0 0] 26)
              have z32a : V.heap.size ≤ u31a.heap.size := hHeld.1.size
              have o32qa := Own.new u31a 26
              have o32pa := o31pa.below j32a
              have ne32pa : u0a.heap.size ≠ u31a.heap.size := Nat.ne_of_lt o31pa.1.1
              generalize u31a.alloc (Obj.cells #[.int .i64 0, .bool false, .int .i64 0, .int .i64 0, .string ⟨#[]⟩, .slice none 0 0] 26) = u32a at *
              clear hHeld o31pa
              have hHeld := hHeld1
              clear hHeld1
              try simp only [Act.put, List.setIfInBounds_toArray, List.set_cons_zero, List.set_cons_succ]
              refine wpAnyH_ready (rs := [8]) (by kernel_rfl) (by simp) ?_
              refine AllReadyH.cons rfl (fun K0 hK0 => ?_) AllReadyH.nil
              · skip
                obtain ⟨⟨-, e0, e1, e2, e3, e4, e5⟩, f0, f1, f2, f3, f4, f5⟩ := id o32pa
                simp only [Nat.zero_add] at e0 e1 e2 e3 e4 e5
                go_simp
                clear e0 e1 e2 e3 e4 e5 f0 f1 f2 f3 f4 f5
                refine hK0.out _ _ ?hS33a (fun hHeld1 => ?_)
                case hS33a => exact unhide SK _ (set6 hHeld.1 (by omega) _ _ _ _ _ _)
                clear hK0 K0
                have s33pa := Own.put o32pa KA BA 0 0 ⟨#[]⟩ none 0 0
                have o33qa := Own.other o32qa (show u31a.heap.size ≠ u0a.heap.size by first | assumption | (intro e; omega)) (.int .i64 KA) (.bool BA) (.int .i64 0) (.int .i64 0) (.string ⟨#[]⟩) (.slice none 0 0)
                generalize ((((((u32a.setCell ⟨u0a.heap.size, 0, none⟩ (.int .i64 KA)).setCell ⟨u0a.heap.size, 1, none⟩ (.bool BA)).setCell ⟨u0a.heap.size, 2, none⟩ (.int .i64 0)).setCell ⟨u0a.heap.size, 3, none⟩ (.int .i64 0)).setCell ⟨u0a.heap.size, 4, none⟩ (.string ⟨#[]⟩)).setCell ⟨u0a.heap.size, 5, none⟩ (.slice none 0 0)) = u33a at *
                clear hHeld o32pa o32qa
                have hHeld := hHeld1
                clear hHeld1
                try simp only [Act.put, List.setIfInBounds_toArray, List.set_cons_zero, List.set_cons_succ]
                refine wpAnyH_ready (rs := [9]) (by kernel_rfl) (by simp) ?_
                refine AllReadyH.cons rfl (fun K0 hK0 => ?_) AllReadyH.nil
                · skip
                  obtain ⟨⟨-, e0, e1, e2, e3, e4, e5⟩, f0, f1, f2, f3, f4, f5⟩ := id o33qa
                  simp only [Nat.zero_add] at e0 e1 e2 e3 e4 e5
                  go_simp
                  clear e0 e1 e2 e3 e4 e5 f0 f1 f2 f3 f4 f5
                  refine hK0.out _ _ ?hS34a (fun hHeld1 => ?_)
                  case hS34a => exact unhide SK _ (set6 hHeld.1 (by omega) _ _ _ _ _ _)
                  clear hK0 K0
                  have s34qa := Own.put o33qa KO BO 0 0 ⟨#[]⟩ none 0 0
                  have s34pa := six_other s33pa (show u0a.heap.size ≠ u31a.heap.size by first | assumption | (intro e; omega)) (.int .i64 KO) (.bool BO) (.int .i64 0) (.int .i64 0) (.string ⟨#[]⟩) (.slice none 0 0)
                  generalize ((((((u33a.setCell ⟨u31a.heap.size, 0, none⟩ (.int .i64 KO)).setCell ⟨u31a.heap.size, 1, none⟩ (.bool BO)).setCell ⟨u31a.heap.size, 2, none⟩ (.int .i64 0)).setCell ⟨u31a.heap.size, 3, none⟩ (.int .i64 0)).setCell ⟨u31a.heap.size, 4, none⟩ (.string ⟨#[]⟩)).setCell ⟨u31a.heap.size, 5, none⟩ (.slice none 0 0)) = u34a at *
                  clear hHeld o33qa s33pa
                  have hHeld := hHeld1
                  clear hHeld1
                  try simp only [Act.put, List.setIfInBounds_toArray, List.set_cons_zero, List.set_cons_succ]
                  refine wpAnyH_done (by kernel_rfl) ?_ _
                  refine NoPanic.normal ?_
                  go_wp2_with fail
                  go_meet
                  exact ⟨_, _, rfl, rfl, s34pa, s34qa, hHeld.1⟩
          · skip
            go_simp
            refine hK0.out _ _ ?hS35a (fun hHeld1 => ?_)
            case hS35a => exact unhide SK _ (keep_alloc hHeld _)
            clear hK0 K0
            have j35a := below1 u30a (Obj.cells #[.int .i64 0, .bool false, .int .i64 0, .int .i64 0, .string ⟨#[]⟩, .slice none 0 0] 26)
            have z35a : V.heap.size ≤ u30a.heap.size := hHeld.1.size
            have o35qa := Own.new u30a 26
            have o35pa := o30pa.below j35a
            have ne35pa : u0a.heap.size ≠ u30a.heap.size := Nat.ne_of_lt o30pa.1.1
            generalize u30a.alloc (Obj.cells #[.int .i64 0, .bool false, .int .i64 0, .int .i64 0, .string ⟨#[]⟩, .slice none 0 0] 26) = u35a at *
            clear hHeld o30pa
            have hHeld := hHeld1
            clear hHeld1
            try simp only [Act.put, List.setIfInBounds_toArray, List.set_cons_zero, List.set_cons_succ]
            refine wpAnyH_ready (rs := [5]) (by kernel_rfl) (by simp) ?_
            refine AllReadyH.cons rfl (fun K0 hK0 => ?_) AllReadyH.nil
            · skip
              go_simp
              refine (unhide H2 _).mono ?_
              rintro e u36a ⟨rfl, j36a⟩
              go_wp2_with fail
              refine hK0.out _ _ ?hS36a (fun hHeld1 => ?_)
              case hS36a => exact unhide SK _ (keep_call hHeld j36a)
              clear hK0 K0
              have o36pa := o35pa.below j36a
              have o36qa := o35qa.below j36a
              clear hHeld o35pa o35qa
              have hHeld := hHeld1
              clear hHeld1
              try simp only [Act.put, List.setIfInBounds_toArray, List.set_cons_zero, List.set_cons_succ]
              refine wpAnyH_ready (rs := [8]) (by kernel_rfl) (by simp) ?_
              refine AllReadyH.cons rfl (fun K0 hK0 => ?_) AllReadyH.nil
              · skip
                obtain ⟨⟨-, e0, e1, e2, e3, e4, e5⟩, f0, f1, f2, f3, f4, f5⟩ := id o36pa
                simp only [Nat.zero_add] at e0 e1 e2 e3 e4 e5
                go_simp
                clear e0 e1 e2 e3 e4 e5 f0 f1 f2 f3 f4 f5
                refine hK0.out _ _ ?hS37a (fun hHeld1 => ?_)
                case hS37a => exact unhide SK _ (set6 hHeld.1 (by omega) _ _ _ _ _ _)
                clear hK0 K0
                have s37pa := Own.put o36pa KA BA 0 0 ⟨#[]⟩ none 0 0
                have o37qa := Own.other o36qa (show u30a.heap.size ≠ u0a.heap.size by first | assumption | (intro e; omega)) (.int .i64 KA) (.bool BA) (.int .i64 0) (.int .i64 0) (.string ⟨#[]⟩) (.slice none 0 0)
                generalize ((((((u36a.setCell ⟨u0a.heap.size, 0, none⟩ (.int .i64 KA)).setCell ⟨u0a.heap.size, 1, none⟩ (.bool BA)).setCell ⟨u0a.heap.size, 2, none⟩ (.int .i64 0)).setCell ⟨u0a.heap.size, 3, none⟩ (.int .i64 0)).setCell ⟨u0a.heap.size, 4, none⟩ (.string ⟨#[]⟩)).setCell ⟨u0a.heap.size, 5, none⟩ (.slice none 0 0)) = u37a at *
                clear hHeld o36pa o36qa
                have hHeld := hHeld1
                clear hHeld1
                try simp only [Act.put, List.setIfInBounds_toArray, List.set_cons_zero, List.set_cons_succ]
                refine wpAnyH_ready (rs := [9]) (by kernel_rfl) (by simp) ?_
                refine AllReadyH.cons rfl (fun K0 hK0 => ?_) AllReadyH.nil
                · skip
                  obtain ⟨⟨-, e0, e1, e2, e3, e4, e5⟩, f0, f1, f2, f3, f4, f5⟩ := id o37qa
                  simp only [Nat.zero_add] at e0 e1 e2 e3 e4 e5
                  go_simp
                  clear e0 e1 e2 e3 e4 e5 f0 f1 f2 f3 f4 f5
                  refine hK0.out _ _ ?hS38a (fun hHeld1 => ?_)
                  case hS38a => exact unhide SK _ (set6 hHeld.1 (by omega) _ _ _ _ _ _)
                  clear hK0 K0
                  have s38qa := Own.put o37qa KO BO 0 0 ⟨#[]⟩ none 0 0
                  have s38pa := six_other s37pa (show u0a.heap.size ≠ u30a.heap.size by first | assumption | (intro e; omega)) (.int .i64 KO) (.bool BO) (.int .i64 0) (.int .i64 0) (.string ⟨#[]⟩) (.slice none 0 0)
                  generalize ((((((u37a.setCell ⟨u30a.heap.size, 0, none⟩ (.int .i64 KO)).setCell ⟨u30a.heap.size, 1, none⟩ (.bool BO)).setCell ⟨u30a.heap.size, 2, none⟩ (.int .i64 0)).setCell ⟨u30a.heap.size, 3, none⟩ (.int .i64 0)).setCell ⟨u30a.heap.size, 4, none⟩ (.string ⟨#[]⟩)).setCell ⟨u30a.heap.size, 5, none⟩ (.slice none 0 0)) = u38a at *
                  clear hHeld o37qa s37pa
                  have hHeld := hHeld1
                  clear hHeld1
                  try simp only [Act.put, List.setIfInBounds_toArray, List.set_cons_zero, List.set_cons_succ]
                  refine wpAnyH_done (by kernel_rfl) ?_ _
                  refine NoPanic.normal ?_
                  go_wp2_with fail
                  go_meet
                  exact ⟨_, _, rfl, rfl, s38pa, s38qa, hHeld.1⟩
        · skip
          go_simp
          refine hK0.out _ _ ?hS39a (fun hHeld1 => ?_)
          case hS39a => exact unhide SK _ (keep_alloc hHeld _)
          clear hK0 K0
          have j39a := below1 u29a (Obj.cells #[.int .i64 0, .bool false, .int .i64 0, .int .i64 0, .string ⟨#[]⟩, .slice none 0 0] 26)
          have z39a : V.heap.size ≤ u29a.heap.size := hHeld.1.size
          have o39qa := Own.new u29a 26
          have o39pa := o29pa.below j39a
          have ne39pa : u0a.heap.size ≠ u29a.heap.size := Nat.ne_of_lt o29pa.1.1
          generalize u29a.alloc (Obj.cells #[.int .i64 0, .bool false, .int .i64 0, .int .i64 0, .string ⟨#[]⟩, .slice none 0 0] 26) = u39a at *
          clear hHeld o29pa
          have hHeld := hHeld1
          clear hHeld1
          try simp only [Act.put, List.setIfInBounds_toArray, List.set_cons_zero, List.set_cons_succ]
          refine wpAnyH_ready (rs := [2]) (by kernel_rfl) (by simp) ?_
          refine AllReadyH.cons rfl (fun K0 hK0 => ?_) AllReadyH.nil
          · skip
            go_simp
            refine (unhide H1 _).mono ?_
            rintro e u40a ⟨rfl, j40a⟩
            go_wp2_with fail
            refine hK0.out _ _ ?hS40a (fun hHeld1 => ?_)
            case hS40a => exact unhide SK _ (keep_call hHeld j40a)
            clear hK0 K0
            have o40pa := o39pa.below j40a
            have o40qa := o39qa.below j40a
            clear hHeld o39pa o39qa
            have hHeld := hHeld1
            clear hHeld1
            try simp only [Act.put, List.setIfInBounds_toArray, List.set_cons_zero, List.set_cons_succ]
            refine wpAnyH_ready (rs := [5]) (by kernel_rfl) (by simp) ?_
            refine AllReadyH.cons rfl (fun K0 hK0 => ?_) AllReadyH.nil
            · skip
              go_simp
              refine (unhide H2 _).mono ?_
              rintro e u41a ⟨rfl, j41a⟩
              go_wp2_with fail
              refine hK0.out _ _ ?hS41a (fun hHeld1 => ?_)
              case hS41a => exact unhide SK _ (keep_call hHeld j41a)
              clear hK0 K0
              have o41pa := o40pa.below j41a
              have o41qa := o40qa.below j41a
              clear hHeld o40pa o40qa
              have hHeld := hHeld1
              clear hHeld1
              try simp only [Act.put, List.setIfInBounds_toArray, List.set_cons_zero, List.set_cons_succ]
              refine wpAnyH_ready (rs := [8]) (by kernel_rfl) (by simp) ?_
              refine AllReadyH.cons rfl (fun K0 hK0 => ?_) AllReadyH.nil
              · skip
                obtain ⟨⟨-, e0, e1, e2, e3, e4, e5⟩, f0, f1, f2, f3, f4, f5⟩ := id o41pa
                simp only [Nat.zero_add] at e0 e1 e2 e3 e4 e5
                go_simp
                clear e0 e1 e2 e3 e4 e5 f0 f1 f2 f3 f4 f5
                refine hK0.out _ _ ?hS42a (fun hHeld1 => ?_)
                case hS42a => exact unhide SK _ (set6 hHeld.1 (by omega) _ _ _ _ _ _)
                clear hK0 K0
                have s42pa := Own.put o41pa KA BA 0 0 ⟨#[]⟩ none 0 0
                have o42qa := Own.other o41qa (show u29a.heap.size ≠ u0a.heap.size by first | assumption | (intro e; omega)) (.int .i64 KA) (.bool BA) (.int .i64 0) (.int .i64 0) (.string ⟨#[]⟩) (.slice none 0 0)
                generalize ((((((u41a.setCell ⟨u0a.heap.size, 0, none⟩ (.int .i64 KA)).setCell ⟨u0a.heap.size, 1, none⟩ (.bool BA)).setCell ⟨u0a.heap.size, 2, none⟩ (.int .i64 0)).setCell ⟨u0a.heap.size, 3, none⟩ (.int .i64 0)).setCell ⟨u0a.heap.size, 4, none⟩ (.string ⟨#[]⟩)).setCell ⟨u0a.heap.size, 5, none⟩ (.slice none 0 0)) = u42a at *
                clear hHeld o41pa o41qa
                have hHeld := hHeld1
                clear hHeld1
                try simp only [Act.put, List.setIfInBounds_toArray, List.set_cons_zero, List.set_cons_succ]
                refine wpAnyH_ready (rs := [9]) (by kernel_rfl) (by simp) ?_
                refine AllReadyH.cons rfl (fun K0 hK0 => ?_) AllReadyH.nil
                · skip
                  obtain ⟨⟨-, e0, e1, e2, e3, e4, e5⟩, f0, f1, f2, f3, f4, f5⟩ := id o42qa
                  simp only [Nat.zero_add] at e0 e1 e2 e3 e4 e5
                  go_simp
                  clear e0 e1 e2 e3 e4 e5 f0 f1 f2 f3 f4 f5
                  refine hK0.out _ _ ?hS43a (fun hHeld1 => ?_)
                  case hS43a => exact unhide SK _ (set6 hHeld.1 (by omega) _ _ _ _ _ _)
                  clear hK0 K0
                  have s43qa := Own.put o42qa KO BO 0 0 ⟨#[]⟩ none 0 0
                  have s43pa := six_other s42pa (show u0a.heap.size ≠ u29a.heap.size by first | assumption | (intro e; omega)) (.int .i64 KO) (.bool BO) (.int .i64 0) (.int .i64 0) (.string ⟨#[]⟩) (.slice none 0 0)
                  generalize ((((((u42a.setCell ⟨u29a.heap.size, 0, none⟩ (.int .i64 KO)).setCell ⟨u29a.heap.size, 1, none⟩ (.bool BO)).setCell ⟨u29a.heap.size, 2, none⟩ (.int .i64 0)).setCell ⟨u29a.heap.size, 3, none⟩ (.int .i64 0)).setCell ⟨u29a.heap.size, 4, none⟩ (.string ⟨#[]⟩)).setCell ⟨u29a.heap.size, 5, none⟩ (.slice none 0 0)) = u43a at *
                  clear hHeld o42qa s42pa
                  have hHeld := hHeld1
                  clear hHeld1
                  try simp only [Act.put, List.setIfInBounds_toArray, List.set_cons_zero, List.set_cons_succ]
                  refine wpAnyH_done (by kernel_rfl) ?_ _
                  refine NoPanic.normal ?_
                  go_wp2_with fail
                  go_meet
                  exact ⟨_, _, rfl, rfl, s43pa, s43qa, hHeld.1⟩
      · skip
        go_simp
        refine hK0.out _ _ ?hS44a (fun hHeld1 => ?_)
        case hS44a => exact unhide SK _ (keep_alloc hHeld _)
        clear hK0 K0
        have j44a := below1 u0a (Obj.cells #[.int .i64 0, .bool false, .int .i64 0, .int .i64 0, .string ⟨#[]⟩, .slice none 0 0] 26)
        have z44a : V.heap.size ≤ u0a.heap.size := hHeld.1.size
        have o44qa := Own.new u0a 26
        generalize u0a.alloc (Obj.cells #[.int .i64 0, .bool false, .int .i64 0, .int .i64 0, .string ⟨#[]⟩, .slice none 0 0] 26) = u44a at *
        clear hHeld 
        have hHeld := hHeld1
        clear hHeld1
        try simp only [Act.put, List.setIfInBounds_toArray, List.set_cons_zero, List.set_cons_succ]
        refine wpAnyH_ready (rs := [2, 6]) (by kernel_rfl) (by simp) ?_
        refine AllReadyH.cons rfl (fun K0 hK0 => ?_) (AllReadyH.cons rfl (fun K0 hK0 => ?_) AllReadyH.nil)
        · skip
          go_simp
          refine (unhide H1 _).mono ?_
          rintro e u45a ⟨rfl, j45a⟩
          go_wp2_with fail
          refine hK0.out _ _ ?hS45a (fun hHeld1 => ?_)
          case hS45a => exact unhide SK _ (keep_call hHeld j45a)
          clear hK0 K0
          have o45qa := o44qa.below j45a
          clear hHeld o44qa
          have hHeld := hHeld1
          clear hHeld1
          try simp only [Act.put, List.setIfInBounds_toArray, List.set_cons_zero, List.set_cons_succ]
          refine wpAnyH_ready (rs := [5, 6]) (by kernel_rfl) (by simp) ?_
          refine AllReadyH.cons rfl (fun K0 hK0 => ?_) (AllReadyH.cons rfl (fun K0 hK0 => ?_) AllReadyH.nil)
          · skip
            go_simp
            refine (unhide H2 _).mono ?_
            rintro e u46a ⟨rfl, j46a⟩
            go_wp2_with fail
            refine hK0.out _ _ ?hS46a (fun hHeld1 => ?_)
            case hS46a => exact unhide SK _ (keep_call hHeld j46a)
            clear hK0 K0
            have o46qa := o45qa.below j46a
            clear hHeld o45qa
            have hHeld := hHeld1
            clear hHeld1
            try simp only [Act.put, List.setIfInBounds_toArray, List.set_cons_zero, List.set_cons_succ]
            refine wpAnyH_ready (rs := [6]) (by kernel_rfl) (by simp) ?_
            refine AllReadyH.cons rfl (fun K0 hK0 => ?_) AllReadyH.nil
            · skip
              go_simp
              refine hK0.out _ _ ?hS47a (fun hHeld1 => ?_)
              case hS47a => exact unhide SK _ (keep_alloc hHeld _)
              clear hK0 K0
              have j47a := below1 u46a (Obj.cells #[.int .i64 0, .bool false, .int .i64 0, .int .i64 0, .string ⟨#[]⟩, .slice none 0 0] 26)
              have z47a : V.heap.size ≤ u46a.heap.size := hHeld.1.size
              have o47pa := Own.new u46a 26
              have o47qa := o46qa.below j47a
              have ne47qa : u0a.heap.size ≠ u46a.heap.size := Nat.ne_of_lt o46qa.1.1
              generalize u46a.alloc (Obj.cells #[.int .i64 0, .bool false, .int .i64 0, .int .i64 0, .string ⟨#[]⟩, .slice none 0 0] 26) = u47a at *
              clear hHeld o46qa
              have hHeld := hHeld1
              clear hHeld1
              try simp only [Act.put, List.setIfInBounds_toArray, List.set_cons_zero, List.set_cons_succ]
              refine wpAnyH_ready (rs := [8]) (by kernel_rfl) (by simp) ?_
              refine AllReadyH.cons rfl (fun K0 hK0 => ?_) AllReadyH.nil
              · skip
                obtain ⟨⟨-, e0, e1, e2, e3, e4, e5⟩, f0, f1, f2, f3, f4, f5⟩ := id o47pa
                simp only [Nat.zero_add] at e0 e1 e2 e3 e4 e5
                go_simp
                clear e0 e1 e2 e3 e4 e5 f0 f1 f2 f3 f4 f5
                refine hK0.out _ _ ?hS48a (fun hHeld1 => ?_)
                case hS48a => exact unhide SK _ (set6 hHeld.1 (by omega) _ _ _ _ _ _)
                clear hK0 K0
                have s48pa := Own.put o47pa KA BA 0 0 ⟨#[]⟩ none 0 0
                have o48qa := Own.other o47qa (show u0a.heap.size ≠ u46a.heap.size by first | assumption | (intro e; omega)) (.int .i64 KA) (.bool BA) (.int .i64 0) (.int .i64 0) (.string ⟨#[]⟩) (.slice none 0 0)
                generalize ((((((u47a.setCell ⟨u46a.heap.size, 0, none⟩ (.int .i64 KA)).setCell ⟨u46a.heap.size, 1, none⟩ (.bool BA)).setCell ⟨u46a.heap.size, 2, none⟩ (.int .i64 0)).setCell ⟨u46a.heap.size, 3, none⟩ (.int .i64 0)).setCell ⟨u46a.heap.size, 4, none⟩ (.string ⟨#[]⟩)).setCell ⟨u46a.heap.size, 5, none⟩ (.slice none 0 0)) = u48a at *
                clear hHeld o47qa o47pa
                have hHeld := hHeld1
                clear hHeld1
                try simp only [Act.put, List.setIfInBounds_toArray, List.set_cons_zero, List.set_cons_succ]
                refine wpAnyH_ready (rs := [9]) (by kernel_rfl) (by simp) ?_
                refine AllReadyH.cons rfl (fun K0 hK0 => ?_) AllReadyH.nil
                · skip
                  obtain ⟨⟨-, e0, e1, e2, e3, e4, e5⟩, f0, f1, f2, f3, f4, f5⟩ := id o48qa
                  simp only [Nat.zero_add] at e0 e1 e2 e3 e4 e5
                  go_simp
                  clear e0 e1 e2 e3 e4 e5 f0 f1 f2 f3 f4 f5
                  refine hK0.out _ _ ?hS49a (fun hHeld1 => ?_)
                  case hS49a => exact unhide SK _ (set6 hHeld.1 (by omega) _ _ _ _ _ _)
                  clear hK0 K0
                  have s49qa := Own.put o48qa KO BO 0 0 ⟨#[]⟩ none 0 0
                  have s49pa := six_other s48pa (show u46a.heap.size ≠ u0a.heap.size by first | assumption | (intro e; omega)) (.int .i64 KO) (.bool BO) (.int .i64 0) (.int .i64 0) (.string ⟨#[]⟩) (.slice none 0 0)
                  generalize ((((((u48a.setCell ⟨u0a.heap.size, 0, none⟩ (.int .i64 KO)).setCell ⟨u0a.heap.size, 1, none⟩ (.bool BO)).setCell ⟨u0a.heap.size, 2, none⟩ (.int .i64 0)).setCell ⟨u0a.heap.size, 3, none⟩ (.int .i64 0)).setCell ⟨u0a.heap.size, 4, none⟩ (.string ⟨#[]⟩)).setCell ⟨u0a.heap.size, 5, none⟩ (.slice none 0 0)) = u49a at *
                  clear hHeld o48qa s48pa
                  have hHeld := hHeld1
                  clear hHeld1
                  try simp only [Act.put, List.setIfInBounds_toArray, List.set_cons_zero, List.set_cons_succ]
                  refine wpAnyH_done (by kernel_rfl) ?_ _
                  refine NoPanic.normal ?_
                  go_wp2_with fail
                  go_meet
                  exact ⟨_, _, rfl, rfl, s49pa, s49qa, hHeld.1⟩
          · skip
            go_simp
            refine hK0.out _ _ ?hS50a (fun hHeld1 => ?_)
            case hS50a => exact unhide SK _ (keep_alloc hHeld _)
            clear hK0 K0
            have j50a := below1 u45a (Obj.cells #[.int .i64 0, .bool false, .int .i64 0, .int .i64 0, .string ⟨#[]⟩, .slice none 0 0] 26)
            have z50a : V.heap.size ≤ u45a.heap.size := hHeld.1.size
            have o50pa := Own.new u45a 26
            have o50qa := o45qa.below j50a
            have ne50qa : u0a.heap.size ≠ u45a.heap.size := Nat.ne_of_lt o45qa.1.1
            generalize u45a.alloc (Obj.cells #[.int .i64 0, .bool false, .int .i64 0, .int .i64 0, .string ⟨#[]⟩, .slice none 0 0] 26) = u50a at *
            clear hHeld o45qa
            have hHeld := hHeld1
            clear hHeld1
            try simp only [Act.put, List.setIfInBounds_toArray, List.set_cons_zero, List.set_cons_succ]
            refine wpAnyH_ready (rs := [5]) (by kernel_rfl) (by simp) ?_
            refine AllReadyH.cons rfl (fun K0 hK0 => ?_) AllReadyH.nil
            · skip
              go_simp
              refine (unhide H2 _).mono ?_
              rintro e u51a ⟨rfl, j51a⟩
              go_wp2_with fail
              refine hK0.out _ _ ?hS51a (fun hHeld1 => ?_)
              case hS51a => exact unhide SK _ (keep_call hHeld j51a)
              clear hK0 K0
              have o51qa := o50qa.below j51a
              have o51pa := o50pa.below j51a
              clear hHeld o50qa o50pa
              have hHeld := hHeld1
              clear hHeld1
              try simp only [Act.put, List.setIfInBounds_toArray, List.set_cons_zero, List.set_cons_succ]
              refine wpAnyH_ready (rs := [8]) (by kernel_rfl) (by simp) ?_
              refine AllReadyH.cons rfl (fun K0 hK0 => ?_) AllReadyH.nil
              · skip
                obtain ⟨⟨-, e0, e1, e2, e3, e4, e5⟩, f0, f1, f2, f3, f4, f5⟩ := id o51pa
                simp only [Nat.zero_add] at e0 e1 e2 e3 e4 e5
                go_simp
                clear e0 e1 e2 e3 e4 e5 f0 f1 f2 f3 f4 f5
                refine hK0.out _ _ ?hS52a (fun hHeld1 => ?_)
                case hS52a => exact unhide SK _ (set6 hHeld.1 (by omega) _ _ _ _ _ _)
                clear hK0 K0
                have s52pa := Own.put o51pa KA BA 0 0 ⟨#[]⟩ none 0 0
                have o52qa := Own.other o51qa (show u0a.heap.size ≠ u45a.heap.size by first | assumption | (intro e; omega)) (.int .i64 KA) (.bool BA) (.int .i64 0) (.int .i64 0) (.string ⟨#[]⟩) (.slice none 0 0)
                generalize ((((((u51a.setCell ⟨u45a.heap.size, 0, none⟩ (.int .i64 KA)).setCell ⟨u45a.heap.size, 1, none⟩ (.bool BA)).setCell ⟨u45a.heap.size, 2, none⟩ (.int .i64 0)).setCell ⟨u45a.heap.size, 3, none⟩ (.int .i64 0)).setCell ⟨u45a.heap.size, 4, none⟩ (.string ⟨#[]⟩)).setCell ⟨u45a.heap.size, 5, none⟩ (.slice none 0 0)) = u52a at *
                clear hHeld o51qa o51pa
                have hHeld := hHeld1
                clear hHeld1
                try simp only [Act.put, List.setIfInBounds_toArray, List.set_cons_zero, List.set_cons_succ]
                refine wpAnyH_ready (rs := [9]) (by kernel_rfl) (by simp) ?_
                refine AllReadyH.cons rfl (fun K0 hK0 => ?_) AllReadyH.nil
                · skip
                  obtain ⟨⟨-, e0, e1, e2, e3, e4, e5⟩, f0, f1, f2, f3, f4, f5⟩ := id o52qa
                  simp only [Nat.zero_add] at e0 e1 e2 e3 e4 e5
                  go_simp
                  clear e0 e1 e2 e3 e4 e5 f0 f1 f2 f3 f4 f5
                  refine hK0.out _ _ ?hS53a (fun hHeld1 => ?_)
                  case hS53a => exact unhide SK _ (set6 hHeld.1 (by omega) _ _ _ _ _ _)
                  clear hK0 K0
                  have s53qa := Own.put o52qa KO BO 0 0 ⟨#[]⟩ none 0 0
                  have s53pa := six_other s52pa (show u45a.heap.size ≠ u0a.heap.size by first | assumption | (intro e; omega)) (.int .i64 KO) (.bool BO) (.int .i64 0) (.int .i64 0) (.string ⟨#[]⟩) (.slice none 0 0)
                  generalize ((((((u52a.setCell ⟨u0a.heap.size, 0, none⟩ (.int .i64 KO)).setCell ⟨u0a.heap.size, 1, none⟩ (.bool BO)).setCell ⟨u0a.heap.size, 2, none⟩ (.int .i64 0)).setCell ⟨u0a.heap.size, 3, none⟩ (.int .i64 0)).setCell ⟨u0a.heap.size, 4, none⟩ (.string ⟨#[]⟩)).setCell ⟨u0a.heap.size, 5, none⟩ (.slice none 0 0)) = u53a at *
                  clear hHeld o52qa s52pa
                  have hHeld := hHeld1
                  clear hHeld1
                  try simp only [Act.put, List.setIfInBounds_toArray, List.set_cons_zero, List.set_cons_succ]
                  refine wpAnyH_done (by kernel_rfl) ?_ _
                  refine NoPanic.normal ?_
                  go_wp2_with fail
                  go_meet
                  exact ⟨_, _, rfl, rfl, s53pa, s53qa, hHeld.1⟩
        · skip
          go_simp
          refine hK0.out _ _ ?hS54a (fun hHeld1 => ?_)
          case hS54a => exact unhide SK _ (keep_alloc hHeld _)
          clear hK0 K0
          have j54a := below1 u44a (Obj.cells #[.int .i64 0, .bool false, .int .i64 0, .int .i64 0, .string ⟨#[]⟩, .slice none 0 0] 26)
          have z54a : V.heap.size ≤ u44a.heap.size := hHeld.1.size
          have o54pa := Own.new u44a 26
          have o54qa := o44qa.below j54a
          have ne54qa : u0a.heap.size ≠ u44a.heap.size := Nat.ne_of_lt o44qa.1.1
          generalize u44a.alloc (Obj.cells #[.int .i64 0, .bool false, .int .i64 0, .int .i64 0, .string ⟨#[]⟩, .slice none 0 0] 26) = u54a at *
          clear hHeld o44qa
          have hHeld := hHeld1
          clear hHeld1
          try simp only [Act.put, List.setIfInBounds_toArray, List.set_cons_zero, List.set_cons_succ]
          refine wpAnyH_ready (rs := [2]) (by kernel_rfl) (by simp) ?_
          refine AllReadyH.cons rfl (fun K0 hK0 => ?_) AllReadyH.nil
          · skip
            go_simp
            refine (unhide H1 _).mono ?_
            rintro e u55a ⟨rfl, j55a⟩
            go_wp2_with fail
            refine hK0.out _ _ ?hS55a (fun hHeld1 => ?_)
            case hS55a => exact unhide SK _ (keep_call hHeld j55a)
            clear hK0 K0
            have o55qa := o54qa.below j55a
            have o55pa := o54pa.below j55a
            clear hHeld o54qa o54pa
            have hHeld := hHeld1
            clear hHeld1
            try simp only [Act.put, List.setIfInBounds_toArray, List.set_cons_zero, List.set_cons_succ]
            refine wpAnyH_ready (rs := [5]) (by kernel_rfl) (by simp) ?_
            refine AllReadyH.cons rfl (fun K0 hK0 => ?_) AllReadyH.nil
            · skip
              go_simp
              refine (unhide H2 _).mono ?_
              rintro e u56a ⟨rfl, j56a⟩
              go_wp2_with fail
              refine hK0.out _ _ ?hS56a (fun hHeld1 => ?_)
              case hS56a => exact unhide SK _ (keep_call hHeld j56a)
              clear hK0 K0
              have o56qa := o55qa.below j56a
              have o56pa := o55pa.below j56a
              clear hHeld o55qa o55pa
              have hHeld := hHeld1
              clear hHeld1
              try simp only [Act.put, List.setIfInBounds_toArray, List.set_cons_zero, List.set_cons_succ]
              refine wpAnyH_ready (rs := [8]) (by kernel_rfl) (by simp) ?_
              refine AllReadyH.cons rfl (fun K0 hK0 => ?_) AllReadyH.nil
              · skip
                obtain ⟨⟨-, e0, e1, e2, e3, e4, e5⟩, f0, f1, f2, f3, f4, f5⟩ := id o56pa
                simp only [Nat.zero_add] at e0 e1 e2 e3 e4 e5
                go_simp
                clear e0 e1 e2 e3 e4 e5 f0 f1 f2 f3 f4 f5
                refine hK0.out _ _ ?hS57a (fun hHeld1 => ?_)
                case hS57a => exact unhide SK _ (set6 hHeld.1 (by omega) _ _ _ _ _ _)
                clear hK0 K0
                have s57pa := Own.put o56pa KA BA 0 0 ⟨#[]⟩ none 0 0
                have o57qa := Own.other o56qa (show u0a.heap.size ≠ u44a.heap.size by first | assumption | (intro e; omega)) (.int .i64 KA) (.bool BA) (.int .i64 0) (.int .i64 0) (.string ⟨#[]⟩) (.slice none 0 0)
                generalize ((((((u56a.setCell ⟨u44a.heap.size, 0, none⟩ (.int .i64 KA)).setCell ⟨u44a.heap.size, 1, none⟩ (.bool BA)).setCell ⟨u44a.heap.size, 2, none⟩ (.int .i64 0)).setCell ⟨u44a.heap.size, 3, none⟩ (.int .i64 0)).setCell ⟨u44a.heap.size, 4, none⟩ (.string ⟨#[]⟩)).setCell ⟨u44a.heap.size, 5, none⟩ (.slice none 0 0)) = u57a at *
                clear hHeld o56qa o56pa
                have hHeld := hHeld1
                clear hHeld1
                try simp only [Act.put, List.setIfInBounds_toArray, List.set_cons_zero, List.set_cons_succ]
                refine wpAnyH_ready (rs := [9]) (by kernel_rfl) (by simp) ?_
                refine AllReadyH.cons rfl (fun K0 hK0 => ?_) AllReadyH.nil
                · skip
                  obtain ⟨⟨-, e0, e1, e2, e3, e4, e5⟩, f0, f1, f2, f3, f4, f5⟩ := id o57qa
                  simp only [Nat.zero_add] at e0 e1 e2 e3 e4 e5
                  go_simp
                  clear e0 e1 e2 e3 e4 e5 f0 f1 f2 f3 f4 f5
                  refine hK0.out _ _ ?hS58a (fun hHeld1 => ?_)
                  case hS58a => exact unhide SK _ (set6 hHeld.1 (by omega) _ _ _ _ _ _)
                  clear hK0 K0
                  have s58qa := Own.put o57qa KO BO 0 0 ⟨#[]⟩ none 0 0
                  have s58pa := six_other s57pa (show u44a.heap.size ≠ u0a.heap.size by first | assumption | (intro e; omega)) (.int .i64 KO) (.bool BO) (.int .i64 0) (.int .i64 0) (.string ⟨#[]⟩) (.slice none 0 0)
                  generalize ((((((u57a.setCell ⟨u0a.heap.size, 0, none⟩ (.int .i64 KO)).setCell ⟨u0a.heap.size, 1, none⟩ (.bool BO)).setCell ⟨u0a.heap.size, 2, none⟩ (.int .i64 0)).setCell ⟨u0a.heap.size, 3, none⟩ (.int .i64 0)).setCell ⟨u0a.heap.size, 4, none⟩ (.string ⟨#[]⟩)).setCell ⟨u0a.heap.size, 5, none⟩ (.slice none 0 0)) = u58a at *
                  clear hHeld o57qa s57pa
                  have hHeld := hHeld1
                  clear hHeld1
                  try simp only [Act.put, List.setIfInBounds_toArray, List.set_cons_zero, List.set_cons_succ]
                  refine wpAnyH_done (by kernel_rfl) ?_ _
                  refine NoPanic.normal ?_
                  go_wp2_with fail
                  go_meet
                  exact ⟨_, _, rfl, rfl, s58pa, s58qa, hHeld.1⟩

    case rest =>
      obtain ⟨bp, bq, rfl, rfl, sp, sq, hb⟩ := hcut
      obtain ⟨V2, hVV⟩ : ∃ x, x = wc := ⟨_, rfl⟩
      subst hVV
      clear SK H1 H2
      have zz := hb.size
      have y0 : V2.cell? ⟨B, 0, none⟩ = some (.int .i64 k) := kcell hb (by omega) x0
      have y1 : V2.cell? ⟨B, 1, none⟩ = some (.bool b) := kcell hb (by omega) x1
      have y2 : V2.cell? ⟨B, 2, none⟩ = some (.int .i64 m) := kcell hb (by omega) x2
      have y3 : V2.cell? ⟨B, 3, none⟩ = some (.int .i64 s) := kcell hb (by omega) x3
      have y4 : V2.cell? ⟨B, 4, none⟩ = some (.string t) := kcell hb (by omega) x4
      have y5 : V2.cell? ⟨B, 5, none⟩ = some (.slice a len cap) := kcell hb (by omega) x5
      have y6 : V2.cell? ⟨B + 1, 0, none⟩ = some (.int .i64 k') := kcell hb (by omega) x6
      have y7 : V2.cell? ⟨B + 1, 1, none⟩ = some (.bool b') := kcell hb (by omega) x7
      have y8 : V2.cell? ⟨B + 1, 2, none⟩ = some (.int .i64 m') := kcell hb (by omega) x8
      have y9 : V2.cell? ⟨B + 1, 3, none⟩ = some (.int .i64 s') := kcell hb (by omega) x9
      have y10 : V2.cell? ⟨B + 1, 4, none⟩ = some (.string t') := kcell hb (by omega) x10
      have y11 : V2.cell? ⟨B + 1, 5, none⟩ = some (.slice a' len' cap') := kcell hb (by omega) x11
      have z2 : B + 1 < V2.heap.size := by omega
      have B2 := hide (hb.mono (Nat.le_refl _))
      have HI2 := hide ((unhide HI1).below hb)
      have SK : Hid (∀ w', Below V2.heap.size V2 w' → (Below V2.heap.size V2 w' ∧ w'.cell? ⟨B, 0, none⟩ = some (.int .i64 k) ∧ w'.cell? ⟨B, 1, none⟩ = some (.bool b) ∧ w'.cell? ⟨B, 2, none⟩ = some (.int .i64 m) ∧ w'.cell? ⟨B, 3, none⟩ = some (.int .i64 s) ∧ w'.cell? ⟨B, 4, none⟩ = some (.string t) ∧ w'.cell? ⟨B, 5, none⟩ = some (.slice a len cap) ∧ w'.cell? ⟨B + 1, 0, none⟩ = some (.int .i64 k') ∧ w'.cell? ⟨B + 1, 1, none⟩ = some (.bool b') ∧ w'.cell? ⟨B + 1, 2, none⟩ = some (.int .i64 m') ∧ w'.cell? ⟨B + 1, 3, none⟩ = some (.int .i64 s') ∧ w'.cell? ⟨B + 1, 4, none⟩ = some (.string t') ∧ w'.cell? ⟨B + 1, 5, none⟩ = some (.slice a' len' cap'))) := by
        intro w' kk
        exact ⟨kk, kcell kk (by omega) y0, kcell kk (by omega) y1, kcell kk (by omega) y2, kcell kk (by omega) y3, kcell kk (by omega) y4, kcell kk (by omega) y5, kcell kk (by omega) y6, kcell kk (by omega) y7, kcell kk (by omega) y8, kcell kk (by omega) y9, kcell kk (by omega) y10, kcell kk (by omega) y11⟩
      clear x0 x1 x2 x3 x4 x5 x6 x7 x8 x9 x10 x11
      go_upto_region 4 with fail
      go_cut [7] (fun f wx => ∃ br : Nat, f = .pointer (some ⟨br, 0, none⟩) ∧ VT.Six wx br 0 KR BR 0 0 ⟨#[]⟩ none 0 0 ∧ Below V2.heap.size V2 wx)
      case first =>
        refine wp_region_noPanic ?_
        refine wp_region_held_drew (S := fun w' => Below V2.heap.size V2 w' ∧ w'.cell? ⟨B, 0, none⟩ = some (.int .i64 k) ∧ w'.cell? ⟨B, 1, none⟩ = some (.bool b) ∧ w'.cell? ⟨B, 2, none⟩ = some (.int .i64 m) ∧ w'.cell? ⟨B, 3, none⟩ = some (.int .i64 s) ∧ w'.cell? ⟨B, 4, none⟩ = some (.string t) ∧ w'.cell? ⟨B, 5, none⟩ = some (.slice a len cap) ∧ w'.cell? ⟨B + 1, 0, none⟩ = some (.int .i64 k') ∧ w'.cell? ⟨B + 1, 1, none⟩ = some (.bool b') ∧ w'.cell? ⟨B + 1, 2, none⟩ = some (.int .i64 m') ∧ w'.cell? ⟨B + 1, 3, none⟩ = some (.int .i64 s') ∧ w'.cell? ⟨B + 1, 4, none⟩ = some (.string t') ∧ w'.cell? ⟨B + 1, 5, none⟩ = some (.slice a' len' cap')) (by kernel_rfl) ?hS0b (fun hHeld => ?_)
        case hS0b => exact unhide SK _ (Below.refl _ _).drew
        generalize V2.drew = u0b at *
        refine takeAt 0 (some 20) ?vb0 ⟨_, rfl, rfl, rfl, ?hyb0⟩ (by kernel_rfl) (by kernel_rfl) (by kernel_rfl) (fun _ _ _ h => h) (by assumption) ?_
        case hyb0 => (intro w0 hSw; (try dsimp only at hSw); go_simp; try (with_reducible rfl))
        simp only [Act.put, List.setIfInBounds_toArray, List.set_cons_zero, List.set_cons_succ]
        refine takeAt 2 (some 22) ?vb2 ⟨_, rfl, rfl, rfl, ?hyb2⟩ (by kernel_rfl) (by kernel_rfl) (by kernel_rfl) (fun _ _ _ h => h) (by assumption) ?_
        case hyb2 => (intro w0 hSw; (try dsimp only at hSw); go_simp; try (with_reducible rfl))
        simp only [Act.put, List.setIfInBounds_toArray, List.set_cons_zero, List.set_cons_succ]
        refine wpAnyH_ready (rs := [1, 5]) (by kernel_rfl) (by simp) ?_
        refine AllReadyH.cons rfl (fun K0 hK0 => ?_) (AllReadyH.cons rfl (fun K0 hK0 => ?_) AllReadyH.nil)
        · skip
          go_simp
          refine (unhide H5 _).mono ?_
          rintro e u1b ⟨rfl, j1b⟩
          go_wp2_with fail
          refine hK0.out _ _ ?hS1b (fun hHeld1 => ?_)
          case hS1b => exact unhide SK _ (keep_call hHeld j1b)
          clear hK0 K0
          clear hHeld 
          have hHeld := hHeld1
          clear hHeld1
          try simp only [Act.put, List.setIfInBounds_toArray, List.set_cons_zero, List.set_cons_succ]
          refine wpAnyH_ready (rs := [3, 5]) (by kernel_rfl) (by simp) ?_
          refine AllReadyH.cons rfl (fun K0 hK0 => ?_) (AllReadyH.cons rfl (fun K0 hK0 => ?_) AllReadyH.nil)
          · skip
            go_simp
            refine (unhide H6 _).mono ?_
            rintro e u2b ⟨rfl, j2b⟩
            go_wp2_with fail
            refine hK0.out _ _ ?hS2b (fun hHeld1 => ?_)
            case hS2b => exact unhide SK _ (keep_call hHeld j2b)
            clear hK0 K0
            clear hHeld 
            have hHeld := hHeld1
            clear hHeld1
            try simp only [Act.put, List.setIfInBounds_toArray, List.set_cons_zero, List.set_cons_succ]
            refine wpAnyH_ready (rs := [4, 5]) (by kernel_rfl) (by simp) ?_
            refine AllReadyH.cons rfl (fun K0 hK0 => ?_) (AllReadyH.cons rfl (fun K0 hK0 => ?_) AllReadyH.nil)
            · skip
              go_simp
              refine (unhide H7 _).mono ?_
              rintro e u3b ⟨rfl, j3b⟩
              go_wp2_with fail
              refine hK0.out _ _ ?hS3b (fun hHeld1 => ?_)
              case hS3b => exact unhide SK _ (keep_call hHeld j3b)
              clear hK0 K0
              clear hHeld 
              have hHeld := hHeld1
              clear hHeld1
              try simp only [Act.put, List.setIfInBounds_toArray, List.set_cons_zero, List.set_cons_succ]
              refine wpAnyH_ready (rs := [5]) (by kernel_rfl) (by simp) ?_
              refine AllReadyH.cons rfl (fun K0 hK0 => ?_) AllReadyH.nil
              · skip
                go_simp
                refine hK0.out _ _ ?hS4b (fun hHeld1 => ?_)
                case hS4b => exact unhide SK _ (keep_alloc hHeld _)
                clear hK0 K0
                have j4b := below1 u3b (Obj.cells #[.int .i64 0, .bool false, .int .i64 0, .int .i64 0, .string ⟨#[]⟩, .slice none 0 0] 26)
                have z4b : V2.heap.size ≤ u3b.heap.size := hHeld.1.size
                have o4rb := Own.new u3b 26
                generalize u3b.alloc (Obj.cells #[.int .i64 0, .bool false, .int .i64 0, .int .i64 0, .string ⟨#[]⟩, .slice none 0 0] 26) = u4b at *
                clear hHeld 
                have hHeld := hHeld1
                clear hHeld1
                try simp only [Act.put, List.setIfInBounds_toArray, List.set_cons_zero, List.set_cons_succ]
                refine wpAnyH_ready (rs := [6]) (by kernel_rfl) (by simp) ?_
                refine AllReadyH.cons rfl (fun K0 hK0 => ?_) AllReadyH.nil
                · skip
                  obtain ⟨⟨-, e0, e1, e2, e3, e4, e5⟩, f0, f1, f2, f3, f4, f5⟩ := id o4rb
                  simp only [Nat.zero_add] at e0 e1 e2 e3 e4 e5
                  go_simp
                  clear e0 e1 e2 e3 e4 e5 f0 f1 f2 f3 f4 f5
                  refine hK0.out _ _ ?hS5b (fun hHeld1 => ?_)
                  case hS5b => exact unhide SK _ (set6 hHeld.1 (by omega) _ _ _ _ _ _)
                  clear hK0 K0
                  have s5rb := Own.put o4rb KR BR 0 0 ⟨#[]⟩ none 0 0
                  generalize ((((((u4b.setCell ⟨u3b.heap.size, 0, none⟩ (.int .i64 KR)).setCell ⟨u3b.heap.size, 1, none⟩ (.bool BR)).setCell ⟨u3b.heap.size, 2, none⟩ (.int .i64 0)).setCell ⟨u3b.heap.size, 3, none⟩ (.int .i64 0)).setCell ⟨u3b.heap.size, 4, none⟩ (.string ⟨#[]⟩)).setCell ⟨u3b.heap.size, 5, none⟩ (.slice none 0 0)) = u5b at *
                  clear hHeld o4rb
                  have hHeld := hHeld1
                  clear hHeld1
                  try simp only [Act.put, List.setIfInBounds_toArray, List.set_cons_zero, List.set_cons_succ]
                  refine wpAnyH_done (by kernel_rfl) ?_ _
                  refine NoPanic.normal ?_
                  go_wp2_with fail
                  go_meet
                  exact ⟨_, rfl, s5rb, hHeld.1⟩
            · skip
              go_simp
              refine hK0.out _ _ ?hS6b (fun hHeld1 => ?_)
              case hS6b => exact unhide SK _ (keep_alloc hHeld _)
              clear hK0 K0
              have j6b := below1 u2b (Obj.cells #[.int .i64 0, .bool false, .int .i64 0, .int .i64 0, .string ⟨#[]⟩, .slice none 0 0] 26)
              have z6b : V2.heap.size ≤ u2b.heap.size := hHeld.1.size
              have o6rb := Own.new u2b 26
              generalize u2b.alloc (Obj.cells #[.int .i64 0, .bool false, .int .i64 0, .int .i64 0, .string ⟨#[]⟩, .slice none 0 0] 26) = u6b at *
              clear hHeld 
              have hHeld := hHeld1
              clear hHeld1
              try simp only [Act.put, List.setIfInBounds_toArray, List.set_cons_zero, List.set_cons_succ]
              refine wpAnyH_ready (rs := [4]) (by kernel_rfl) (by simp) ?_
              refine AllReadyH.cons rfl (fun K0 hK0 => ?_) AllReadyH.nil
              · skip
                go_simp
                refine (unhide H7 _).mono ?_
                rintro e u7b ⟨rfl, j7b⟩
                go_wp2_with fail
                refine hK0.out _ _ ?hS7b (fun hHeld1 => ?_)
                case hS7b => exact unhide SK _ (keep_call hHeld j7b)
                clear hK0 K0
                have o7rb := o6rb.below j7b
                clear hHeld o6rb
                have hHeld := hHeld1
                clear hHeld1
                try simp only [Act.put, List.setIfInBounds_toArray, List.set_cons_zero, List.set_cons_succ]
                refine wpAnyH_ready (rs := [6]) (by kernel_rfl) (by simp) ?_
                refine AllReadyH.cons rfl (fun K0 hK0 => ?_) AllReadyH.nil
                · skip
                  obtain ⟨⟨-, e0, e1, e2, e3, e4, e5⟩, f0, f1, f2, f3, f4, f5⟩ := id o7rb
                  simp only [Nat.zero_add] at e0 e1 e2 e3 e4 e5
                  go_simp
                  clear e0 e1 e2 e3 e4 e5 f0 f1 f2 f3 f4 f5
                  refine hK0.out _ _ ?hS8b (fun hHeld1 => ?_)
                  case hS8b => exact unhide SK _ (set6 hHeld.1 (by omega) _ _ _ _ _ _)
                  clear hK0 K0
                  have s8rb := Own.put o7rb KR BR 0 0 ⟨#[]⟩ none 0 0
                  generalize ((((((u7b.setCell ⟨u2b.heap.size, 0, none⟩ (.int .i64 KR)).setCell ⟨u2b.heap.size, 1, none⟩ (.bool BR)).setCell ⟨u2b.heap.size, 2, none⟩ (.int .i64 0)).setCell ⟨u2b.heap.size, 3, none⟩ (.int .i64 0)).setCell ⟨u2b.heap.size, 4, none⟩ (.string ⟨#[]⟩)).setCell ⟨u2b.heap.size, 5, none⟩ (.slice none 0 0)) = u8b at *
                  clear hHeld o7rb
                  have hHeld := hHeld1
                  clear hHeld1
                  try simp only [Act.put, List.setIfInBounds_toArray, List.set_cons_zero, List.set_cons_succ]
                  refine wpAnyH_done (by kernel_rfl) ?_ _
                  refine NoPanic.normal ?_
                  go_wp2_with fail
                  go_meet
                  exact ⟨_, rfl, s8rb, hHeld.1⟩
          · skip
            go_simp
            refine hK0.out _ _ ?hS9b (fun hHeld1 => ?_)
            case hS9b => exact unhide SK _ (keep_alloc hHeld _)
            clear hK0 K0
            have j9b := below1 u1b (Obj.cells #[.int .i64 0, .bool false, .int .i64 0, .int .i64 0, .string ⟨#[]⟩, .slice none 0 0] 26)
            have z9b : V2.heap.size ≤ u1b.heap.size := hHeld.1.size
            have o9rb := Own.new u1b 26
            generalize u1b.alloc (Obj.cells #[.int .i64 0, .bool false, .int .i64 0, .int .i64 0, .string ⟨#[]⟩, .slice none 0 0] 26) = u9b at *
            clear hHeld 
            have hHeld := hHeld1
            clear hHeld1
            try simp only [Act.put, List.setIfInBounds_toArray, List.set_cons_zero, List.set_cons_succ]
            refine wpAnyH_ready (rs := [3]) (by kernel_rfl) (by simp) ?_
            refine AllReadyH.cons rfl (fun K0 hK0 => ?_) AllReadyH.nil
            · skip
              go_simp
              refine (unhide H6 _).mono ?_
              rintro e u10b ⟨rfl, j10b⟩
              go_wp2_with fail
              refine hK0.out _ _ ?hS10b (fun hHeld1 => ?_)
              case hS10b => exact unhide SK _ (keep_call hHeld j10b)
              clear hK0 K0
              have o10rb := o9rb.below j10b
              clear hHeld o9rb
              have hHeld := hHeld1
              clear hHeld1
              try simp only [Act.put, List.setIfInBounds_toArray, List.set_cons_zero, List.set_cons_succ]
              refine wpAnyH_ready (rs := [4]) (by kernel_rfl) (by simp) ?_
              refine AllReadyH.cons rfl (fun K0 hK0 => ?_) AllReadyH.nil
              · skip
                go_simp
                refine (unhide H7 _).mono ?_
                rintro e u11b ⟨rfl, j11b⟩
                go_wp2_with fail
                refine hK0.out _ _ ?hS11b (fun hHeld1 => ?_)
                case hS11b => exact unhide SK _ (keep_call hHeld j11b)
                clear hK0 K0
                have o11rb := o10rb.below j11b
                clear hHeld o10rb
                have hHeld := hHeld1
                clear hHeld1
                try simp only [Act.put, List.setIfInBounds_toArray, List.set_cons_zero, List.set_cons_succ]
                refine wpAnyH_ready (rs := [6]) (by kernel_rfl) (by simp) ?_
                refine AllReadyH.cons rfl (fun K0 hK0 => ?_) AllReadyH.nil
                · skip
                  obtain ⟨⟨-, e0, e1, e2, e3, e4, e5⟩, f0, f1, f2, f3, f4, f5⟩ := id o11rb
                  simp only [Nat.zero_add] at e0 e1 e2 e3 e4 e5
                  go_simp
                  clear e0 e1 e2 e3 e4 e5 f0 f1 f2 f3 f4 f5
                  refine hK0.out _ _ ?hS12b (fun hHeld1 => ?_)
                  case hS12b => exact unhide SK _ (set6 hHeld.1 (by omega) _ _ _ _ _ _)
                  clear hK0 K0
                  have s12rb := Own.put o11rb KR BR 0 0 ⟨#[]⟩ none 0 0
                  generalize ((((((u11b.setCell ⟨u1b.heap.size, 0, none⟩ (.int .i64 KR)).setCell ⟨u1b.heap.size, 1, none⟩ (.bool BR)).setCell ⟨u1b.heap.size, 2, none⟩ (.int .i64 0)).setCell ⟨u1b.heap.size, 3, none⟩ (.int .i64 0)).setCell ⟨u1b.heap.size, 4, none⟩ (.string ⟨#[]⟩)).setCell ⟨u1b.heap.size, 5, none⟩ (.slice none 0 0)) = u12b at *
                  clear hHeld o11rb
                  have hHeld := hHeld1
                  clear hHeld1
                  try simp only [Act.put, List.setIfInBounds_toArray, List.set_cons_zero, List.set_cons_succ]
                  refine wpAnyH_done (by kernel_rfl) ?_ _
                  refine NoPanic.normal ?_
                  go_wp2_with fail
                  go_meet
                  exact ⟨_, rfl, s12rb, hHeld.1⟩
        · skip
          go_simp
          refine hK0.out _ _ ?hS13b (fun hHeld1 => ?_)
          case hS13b => exact unhide SK _ (keep_alloc hHeld _)
          clear hK0 K0
          have j13b := below1 u0b (Obj.cells #[.int .i64 0, .bool false, .int .i64 0, .int .i64 0, .string ⟨#[]⟩, .slice none 0 0] 26)
          have z13b : V2.heap.size ≤ u0b.heap.size := hHeld.1.size
          have o13rb := Own.new u0b 26
          generalize u0b.alloc (Obj.cells #[.int .i64 0, .bool false, .int .i64 0, .int .i64 0, .string ⟨#[]⟩, .slice none 0 0] 26) = u13b at *
          clear hHeld 
          have hHeld := hHeld1
          clear hHeld1
          try simp only [Act.put, List.setIfInBounds_toArray, List.set_cons_zero, List.set_cons_succ]
          refine wpAnyH_ready (rs := [1]) (by kernel_rfl) (by simp) ?_
          refine AllReadyH.cons rfl (fun K0 hK0 => ?_) AllReadyH.nil
          · skip
            go_simp
            refine (unhide H5 _).mono ?_
            rintro e u14b ⟨rfl, j14b⟩
            go_wp2_with fail
            refine hK0.out _ _ ?hS14b (fun hHeld1 => ?_)
            case hS14b => exact unhide SK _ (keep_call hHeld j14b)
            clear hK0 K0
            have o14rb := o13rb.below j14b
            clear hHeld o13rb
            have hHeld := hHeld1
            clear hHeld1
            try simp only [Act.put, List.setIfInBounds_toArray, List.set_cons_zero, List.set_cons_succ]
            refine wpAnyH_ready (rs := [3]) (by kernel_rfl) (by simp) ?_
            refine AllReadyH.cons rfl (fun K0 hK0 => ?_) AllReadyH.nil
            · skip
              go_simp
              refine (unhide H6 _).mono ?_
              rintro e u15b ⟨rfl, j15b⟩
              go_wp2_with fail
              refine hK0.out _ _ ?hS15b (fun hHeld1 => ?_)
              case hS15b => exact unhide SK _ (keep_call hHeld j15b)
              clear hK0 K0
              have o15rb := o14rb.below j15b
              clear hHeld o14rb
              have hHeld := hHeld1
              clear hHeld1
              try simp only [Act.put, List.setIfInBounds_toArray, List.set_cons_zero, List.set_cons_succ]
              refine wpAnyH_ready (rs := [4]) (by kernel_rfl) (by simp) ?_
              refine AllReadyH.cons rfl (fun K0 hK0 => ?_) AllReadyH.nil
              · skip
                go_simp
                refine (unhide H7 _).mono ?_
                rintro e u16b ⟨rfl, j16b⟩
                go_wp2_with fail
                refine hK0.out _ _ ?hS16b (fun hHeld1 => ?_)
                case hS16b => exact unhide SK _ (keep_call hHeld j16b)
                clear hK0 K0
                have o16rb := o15rb.below j16b
                clear hHeld o15rb
                have hHeld := hHeld1
                clear hHeld1
                try simp only [Act.put, List.setIfInBounds_toArray, List.set_cons_zero, List.set_cons_succ]
                refine wpAnyH_ready (rs := [6]) (by kernel_rfl) (by simp) ?_
                refine AllReadyH.cons rfl (fun K0 hK0 => ?_) AllReadyH.nil
                · skip
                  obtain ⟨⟨-, e0, e1, e2, e3, e4, e5⟩, f0, f1, f2, f3, f4, f5⟩ := id o16rb
                  simp only [Nat.zero_add] at e0 e1 e2 e3 e4 e5
                  go_simp
                  clear e0 e1 e2 e3 e4 e5 f0 f1 f2 f3 f4 f5
                  refine hK0.out _ _ ?hS17b (fun hHeld1 => ?_)
                  case hS17b => exact unhide SK _ (set6 hHeld.1 (by omega) _ _ _ _ _ _)
                  clear hK0 K0
                  have s17rb := Own.put o16rb KR BR 0 0 ⟨#[]⟩ none 0 0
                  generalize ((((((u16b.setCell ⟨u0b.heap.size, 0, none⟩ (.int .i64 KR)).setCell ⟨u0b.heap.size, 1, none⟩ (.bool BR)).setCell ⟨u0b.heap.size, 2, none⟩ (.int .i64 0)).setCell ⟨u0b.heap.size, 3, none⟩ (.int .i64 0)).setCell ⟨u0b.heap.size, 4, none⟩ (.string ⟨#[]⟩)).setCell ⟨u0b.heap.size, 5, none⟩ (.slice none 0 0)) = u17b at *
                  clear hHeld o16rb
                  have hHeld := hHeld1
                  clear hHeld1
                  try simp only [Act.put, List.setIfInBounds_toArray, List.set_cons_zero, List.set_cons_succ]
                  refine wpAnyH_done (by kernel_rfl) ?_ _
                  refine NoPanic.normal ?_
                  go_wp2_with fail
                  go_meet
                  exact ⟨_, rfl, s17rb, hHeld.1⟩

      case rest =>
        obtain ⟨br, rfl, sr, hb2⟩ := hcut
        obtain ⟨V3, hVV⟩ : ∃ x, x = wc := ⟨_, rfl⟩
        subst hVV
        clear SK H6 H7
        have sp3 := VT.Six.below sp hb2
        have sq3 := VT.Six.below sq hb2
        have zz2 := hb2.size
        have x0 : V3.cell? ⟨B, 0, none⟩ = some (.int .i64 k) := kcell hb2 (by omega) y0
        have x1 : V3.cell? ⟨B, 1, none⟩ = some (.bool b) := kcell hb2 (by omega) y1
        have x2 : V3.cell? ⟨B, 2, none⟩ = some (.int .i64 m) := kcell hb2 (by omega) y2
        have x3 : V3.cell? ⟨B, 3, none⟩ = some (.int .i64 s) := kcell hb2 (by omega) y3
        have x4 : V3.cell? ⟨B, 4, none⟩ = some (.string t) := kcell hb2 (by omega) y4
        have x5 : V3.cell? ⟨B, 5, none⟩ = some (.slice a len cap) := kcell hb2 (by omega) y5
        have x6 : V3.cell? ⟨B + 1, 0, none⟩ = some (.int .i64 k') := kcell hb2 (by omega) y6
        have x7 : V3.cell? ⟨B + 1, 1, none⟩ = some (.bool b') := kcell hb2 (by omega) y7
        have x8 : V3.cell? ⟨B + 1, 2, none⟩ = some (.int .i64 m') := kcell hb2 (by omega) y8
        have x9 : V3.cell? ⟨B + 1, 3, none⟩ = some (.int .i64 s') := kcell hb2 (by omega) y9
        have x10 : V3.cell? ⟨B + 1, 4, none⟩ = some (.string t') := kcell hb2 (by omega) y10
        have x11 : V3.cell? ⟨B + 1, 5, none⟩ = some (.slice a' len' cap') := kcell hb2 (by omega) y11
        have z3 : B + 1 < V3.heap.size := by omega
        have HI3 := hide ((unhide HI2).below hb2)
        have B3 := hide (bstep hb hb2)
        clear y0 y1 y2 y3 y4 y5 y6 y7 y8 y9 y10 y11 hb hb2 sp sq B2 HI2 HI1
        obtain ⟨p0, p1, p2, p3, p4, p5, p6⟩ := sp3
        obtain ⟨q0, q1, q2, q3, q4, q5, q6⟩ := sq3
        obtain ⟨r0, r1, r2, r3, r4, r5, r6⟩ := sr
        simp only [Nat.zero_add] at p1 p2 p3 p4 p5 p6 q1 q2 q3 q4 q5 q6 r1 r2 r3 r4 r5 r6
        have SK3 : Hid (∀ w', Below V3.heap.size V3 w' → (Below V3.heap.size V3 w' ∧ w'.cell? ⟨B, 0, none⟩ = some (.int .i64 k) ∧ w'.cell? ⟨B, 1, none⟩ = some (.bool b) ∧ w'.cell? ⟨B, 2, none⟩ = some (.int .i64 m) ∧ w'.cell? ⟨B, 3, none⟩ = some (.int .i64 s) ∧ w'.cell? ⟨B, 4, none⟩ = some (.string t) ∧ w'.cell? ⟨B, 5, none⟩ = some (.slice a len cap) ∧ w'.cell? ⟨B + 1, 0, none⟩ = some (.int .i64 k') ∧ w'.cell? ⟨B + 1, 1, none⟩ = some (.bool b') ∧ w'.cell? ⟨B + 1, 2, none⟩ = some (.int .i64 m') ∧ w'.cell? ⟨B + 1, 3, none⟩ = some (.int .i64 s') ∧ w'.cell? ⟨B + 1, 4, none⟩ = some (.string t') ∧ w'.cell? ⟨B + 1, 5, none⟩ = some (.slice a' len' cap') ∧ w'.cell? ⟨bp, 0, none⟩ = some (.int .i64 KA) ∧ w'.cell? ⟨bp, 1, none⟩ = some (.bool BA) ∧ w'.cell? ⟨bp, 2, none⟩ = some (.int .i64 0) ∧ w'.cell? ⟨bp, 3, none⟩ = some (.int .i64 0) ∧ w'.cell? ⟨bp, 4, none⟩ = some (.string ⟨#[]⟩) ∧ w'.cell? ⟨bp, 5, none⟩ = some (.slice none 0 0) ∧ w'.cell? ⟨bq, 0, none⟩ = some (.int .i64 KO) ∧ w'.cell? ⟨bq, 1, none⟩ = some (.bool BO) ∧ w'.cell? ⟨bq, 2, none⟩ = some (.int .i64 0) ∧ w'.cell? ⟨bq, 3, none⟩ = some (.int .i64 0) ∧ w'.cell? ⟨bq, 4, none⟩ = some (.string ⟨#[]⟩) ∧ w'.cell? ⟨bq, 5, none⟩ = some (.slice none 0 0) ∧ w'.cell? ⟨br, 0, none⟩ = some (.int .i64 KR) ∧ w'.cell? ⟨br, 1, none⟩ = some (.bool BR) ∧ w'.cell? ⟨br, 2, none⟩ = some (.int .i64 0) ∧ w'.cell? ⟨br, 3, none⟩ = some (.int .i64 0) ∧ w'.cell? ⟨br, 4, none⟩ = some (.string ⟨#[]⟩) ∧ w'.cell? ⟨br, 5, none⟩ = some (.slice none 0 0))) := by
          intro w' kk
          exact ⟨kk, kcell kk (by omega) x0, kcell kk (by omega) x1, kcell kk (by omega) x2, kcell kk (by omega) x3, kcell kk (by omega) x4, kcell kk (by omega) x5, kcell kk (by omega) x6, kcell kk (by omega) x7, kcell kk (by omega) x8, kcell kk (by omega) x9, kcell kk (by omega) x10, kcell kk (by omega) x11, kcell kk (by omega) p1, kcell kk (by omega) p2, kcell kk (by omega) p3, kcell kk (by omega) p4, kcell kk (by omega) p5, kcell kk (by omega) p6, kcell kk (by omega) q1, kcell kk (by omega) q2, kcell kk (by omega) q3, kcell kk (by omega) q4, kcell kk (by omega) q5, kcell kk (by omega) q6, kcell kk (by omega) r1, kcell kk (by omega) r2, kcell kk (by omega) r3, kcell kk (by omega) r4, kcell kk (by omega) r5, kcell kk (by omega) r6⟩
        go_upto_region 5 with fail
        go_cut [8] (fun f wx => f = .bool true ∧ Below V3.heap.size V3 wx)
        case first =>
          go_region_held3 (fun w' => Below V3.heap.size V3 w' ∧ w'.cell? ⟨B, 0, none⟩ = some (.int .i64 k) ∧ w'.cell? ⟨B, 1, none⟩ = some (.bool b) ∧ w'.cell? ⟨B, 2, none⟩ = some (.int .i64 m) ∧ w'.cell? ⟨B, 3, none⟩ = some (.int .i64 s) ∧ w'.cell? ⟨B, 4, none⟩ = some (.string t) ∧ w'.cell? ⟨B, 5, none⟩ = some (.slice a len cap) ∧ w'.cell? ⟨B + 1, 0, none⟩ = some (.int .i64 k') ∧ w'.cell? ⟨B + 1, 1, none⟩ = some (.bool b') ∧ w'.cell? ⟨B + 1, 2, none⟩ = some (.int .i64 m') ∧ w'.cell? ⟨B + 1, 3, none⟩ = some (.int .i64 s') ∧ w'.cell? ⟨B + 1, 4, none⟩ = some (.string t') ∧ w'.cell? ⟨B + 1, 5, none⟩ = some (.slice a' len' cap') ∧ w'.cell? ⟨bp, 0, none⟩ = some (.int .i64 KA) ∧ w'.cell? ⟨bp, 1, none⟩ = some (.bool BA) ∧ w'.cell? ⟨bp, 2, none⟩ = some (.int .i64 0) ∧ w'.cell? ⟨bp, 3, none⟩ = some (.int .i64 0) ∧ w'.cell? ⟨bp, 4, none⟩ = some (.string ⟨#[]⟩) ∧ w'.cell? ⟨bp, 5, none⟩ = some (.slice none 0 0) ∧ w'.cell? ⟨bq, 0, none⟩ = some (.int .i64 KO) ∧ w'.cell? ⟨bq, 1, none⟩ = some (.bool BO) ∧ w'.cell? ⟨bq, 2, none⟩ = some (.int .i64 0) ∧ w'.cell? ⟨bq, 3, none⟩ = some (.int .i64 0) ∧ w'.cell? ⟨bq, 4, none⟩ = some (.string ⟨#[]⟩) ∧ w'.cell? ⟨bq, 5, none⟩ = some (.slice none 0 0) ∧ w'.cell? ⟨br, 0, none⟩ = some (.int .i64 KR) ∧ w'.cell? ⟨br, 1, none⟩ = some (.bool BR) ∧ w'.cell? ⟨br, 2, none⟩ = some (.int .i64 0) ∧ w'.cell? ⟨br, 3, none⟩ = some (.int .i64 0) ∧ w'.cell? ⟨br, 4, none⟩ = some (.string ⟨#[]⟩) ∧ w'.cell? ⟨br, 5, none⟩ = some (.slice none 0 0))
            (first | exact unhide SK3 _ (Below.refl _ _).drew | assumption | exact unhide SK3 _ (keep_call (by assumption) k4))
            (first | (go_at_call 12; refine (unhide H3 _).mono ?_; rintro e w4 ⟨rfl, k4⟩) | (go_at_call 13; refine (unhide H4 _).mono ?_; rintro e w4 ⟨rfl, k4⟩) | (go_at_call 14; refine (unhide H8 _).mono ?_; rintro e w4 ⟨rfl, k4⟩) | (go_at_call_of 10 ([.agg #[.int .i64 KA, .bool BA, .int .i64 0, .int .i64 0, .string ⟨#[]⟩, .slice none 0 0], .agg #[.int .i64 KA, .bool BA, .int .i64 0, .int .i64 0, .string ⟨#[]⟩, .slice none 0 0]] : List Value); refine (unhide H9 _).mono ?_; rintro e w4 ⟨rfl, k4⟩) | (go_at_call_of 10 ([.agg #[.int .i64 KO, .bool BO, .int .i64 0, .int .i64 0, .string ⟨#[]⟩, .slice none 0 0], .agg #[.int .i64 KO, .bool BO, .int .i64 0, .int .i64 0, .string ⟨#[]⟩, .slice none 0 0]] : List Value); refine (unhide H10 _).mono ?_; rintro e w4 ⟨rfl, k4⟩) | (go_at_call_of 10 ([.agg #[.int .i64 KR, .bool BR, .int .i64 0, .int .i64 0, .string ⟨#[]⟩, .slice none 0 0], .agg #[.int .i64 KR, .bool BR, .int .i64 0, .int .i64 0, .string ⟨#[]⟩, .slice none 0 0]] : List Value); refine (unhide H11 _).mono ?_; rintro e w4 ⟨rfl, k4⟩))
          all_goals
            go_wp2_with fail
            go_meet
            exact ⟨rfl, And.left (by assumption)⟩
        case rest =>
          obtain ⟨rfl, hb3⟩ := hcut
          obtain ⟨V4, hVV⟩ : ∃ x, x = wc := ⟨_, rfl⟩
          subst hVV
          have HI4 := hide ((unhide HI3).below hb3)
          have zz3 := hb3.size
          have B4 := hide (bstep (unhide B3) hb3)
          have v0 : V4.cell? ⟨B, 0, none⟩ = some (.int .i64 k) := kcell hb3 (by omega) x0
          have v1 : V4.cell? ⟨B, 1, none⟩ = some (.bool b) := kcell hb3 (by omega) x1
          have v2 : V4.cell? ⟨B, 2, none⟩ = some (.int .i64 m) := kcell hb3 (by omega) x2
          have v3 : V4.cell? ⟨B, 3, none⟩ = some (.int .i64 s) := kcell hb3 (by omega) x3
          have v4 : V4.cell? ⟨B, 4, none⟩ = some (.string t) := kcell hb3 (by omega) x4
          have v5 : V4.cell? ⟨B, 5, none⟩ = some (.slice a len cap) := kcell hb3 (by omega) x5
          have v6 : V4.cell? ⟨bp, 0, none⟩ = some (.int .i64 KA) := kcell hb3 (by omega) p1
          have z4 : B + 1 < V4.heap.size := by omega
          have z5 : bp < V4.heap.size := by omega
          clear x0 x1 x2 x3 x4 x5 x6 x7 x8 x9 x10 x11 p0 p1 p2 p3 p4 p5 p6 q0 q1 q2 q3 q4 q5 q6 r0 r1 r2 r3 r4 r5 r6 SK3 hb3 B3 HI3 H3 H4 H8 H9 H10 H11
          have SK4 : Hid (∀ w', Below V4.heap.size V4 w' → (Below V4.heap.size V4 w' ∧ w'.cell? ⟨B, 0, none⟩ = some (.int .i64 k) ∧ w'.cell? ⟨B, 1, none⟩ = some (.bool b) ∧ w'.cell? ⟨B, 2, none⟩ = some (.int .i64 m) ∧ w'.cell? ⟨B, 3, none⟩ = some (.int .i64 s) ∧ w'.cell? ⟨B, 4, none⟩ = some (.string t) ∧ w'.cell? ⟨B, 5, none⟩ = some (.slice a len cap) ∧ w'.cell? ⟨bp, 0, none⟩ = some (.int .i64 KA))) := by
            intro w' kk
            exact ⟨kk, kcell kk (by omega) v0, kcell kk (by omega) v1, kcell kk (by omega) v2, kcell kk (by omega) v3, kcell kk (by omega) v4, kcell kk (by omega) v5, kcell kk (by omega) v6⟩
          by_cases k1 : k = 1
          · have G1 := hide (unhide H12 k1).1
            have G2 := hide (unhide H12 k1).2
            subst k1
            clear H12
            rcases d1 with rfl | rfl
            · go_upto_region 6 with fail
              refine wp_region_noPanic ?_
              refine wp_region_held_drew (S := fun w' => Below V4.heap.size V4 w' ∧ w'.cell? ⟨B, 0, none⟩ = some (.int .i64 1) ∧ w'.cell? ⟨B, 1, none⟩ = some (.bool b) ∧ w'.cell? ⟨B, 2, none⟩ = some (.int .i64 m) ∧ w'.cell? ⟨B, 3, none⟩ = some (.int .i64 s) ∧ w'.cell? ⟨B, 4, none⟩ = some (.string t) ∧ w'.cell? ⟨B, 5, none⟩ = some (.slice a len cap) ∧ w'.cell? ⟨bp, 0, none⟩ = some (.int .i64 0)) (by kernel_rfl) ?hS0c (fun hHeld => ?_)
              case hS0c => exact unhide SK4 _ (Below.refl _ _).drew
              refine takeAt 0 (some 43) ?vc0 ⟨_, rfl, rfl, rfl, ?hyc0⟩ (by kernel_rfl) (by kernel_rfl) (by kernel_rfl) (fun _ _ _ h => h) (by assumption) ?_
              case hyc0 => (intro w0 hSw; (try dsimp only at hSw); go_simp; try (with_reducible rfl))
              simp only [Act.put, List.setIfInBounds_toArray, List.set_cons_zero, List.set_cons_succ]
              refine takeAt 1 (some 44) ?vc1 ⟨_, rfl, rfl, rfl, ?hyc1⟩ (by kernel_rfl) (by kernel_rfl) (by kernel_rfl) (fun _ _ _ h => h) (by assumption) ?_
              case hyc1 => (intro w0 hSw; (try dsimp only at hSw); go_simp; try (with_reducible rfl))
              simp only [Act.put, List.setIfInBounds_toArray, List.set_cons_zero, List.set_cons_succ]
              refine takeAt 2 (some 45) ?vc2 ⟨_, rfl, rfl, rfl, ?hyc2⟩ (by kernel_rfl) (by kernel_rfl) (by kernel_rfl) (fun _ _ _ h => h) (by assumption) ?_
              case hyc2 => (intro w0 hSw; (try dsimp only at hSw); go_simp; try (with_reducible rfl))
              simp only [Act.put, List.setIfInBounds_toArray, List.set_cons_zero, List.set_cons_succ]
              refine takeAt 3 (some 46) ?vc3 ⟨_, rfl, rfl, rfl, ?hyc3⟩ (by kernel_rfl) (by kernel_rfl) (by kernel_rfl) (fun _ _ _ h => h) (by assumption) ?_
              case hyc3 => (intro w0 hSw; (try dsimp only at hSw); go_simp; try (with_reducible rfl))
              simp only [Act.put, List.setIfInBounds_toArray, List.set_cons_zero, List.set_cons_succ]
              refine takeAt 4 (some 47) ?vc4 ⟨_, rfl, rfl, rfl, ?hyc4⟩ (by kernel_rfl) (by kernel_rfl) (by kernel_rfl) (fun _ _ _ h => h) (by assumption) ?_
              case hyc4 => (intro w0 hSw; (try dsimp only at hSw); go_simp; try (with_reducible rfl))
              simp only [Act.put, List.setIfInBounds_toArray, List.set_cons_zero, List.set_cons_succ]
              refine takeAt 5 (some 48) ?vc5 ⟨_, rfl, rfl, rfl, ?hyc5⟩ (by kernel_rfl) (by kernel_rfl) (by kernel_rfl) (fun _ _ _ h => h) (by assumption) ?_
              case hyc5 => (intro w0 hSw; (try dsimp only at hSw); go_simp; try (with_reducible rfl))
              simp only [Act.put, List.setIfInBounds_toArray, List.set_cons_zero, List.set_cons_succ]
              refine takeAt 6 (some 49) ?vc6 ⟨_, rfl, rfl, rfl, ?hyc6⟩ (by kernel_rfl) (by kernel_rfl) (by kernel_rfl) (fun _ _ _ h => h) (by assumption) ?_
              case hyc6 => (intro w0 hSw; (try dsimp only at hSw); go_simp; try (with_reducible rfl))
              simp only [Act.put, List.setIfInBounds_toArray, List.set_cons_zero, List.set_cons_succ]
              refine takeAt 9 (some 52) ?vc9 ⟨_, rfl, rfl, rfl, ?hyc9⟩ (by kernel_rfl) (by kernel_rfl) (by kernel_rfl) (fun _ _ _ h => h) (by assumption) ?_
              case hyc9 => (intro w0 hSw; (try dsimp only at hSw); go_simp; try (with_reducible rfl))
              simp only [Act.put, List.setIfInBounds_toArray, List.set_cons_zero, List.set_cons_succ]
              refine wpAnyH_ready (rs := [7]) (by kernel_rfl) (by simp) ?_
              refine AllReadyH.cons rfl (fun K0 hK0 => ?_) AllReadyH.nil
              go_simp
              refine (unhide H5 _).mono ?_
              rintro e n1 ⟨rfl, kn1⟩
              go_wp2_with fail
              refine hK0.out _ _ ?hSc7 (fun hHeld1 => ?_)
              case hSc7 => exact unhide SK4 _ (keep_call hHeld kn1)
              clear hK0 K0 hHeld
              have hHeld := hHeld1
              clear hHeld1
              try simp only [Act.put, List.setIfInBounds_toArray, List.set_cons_zero, List.set_cons_succ]
              refine wpAnyH_ready (rs := [8]) (by kernel_rfl) (by simp) ?_
              refine AllReadyH.cons rfl (fun K0 hK0 => ?_) AllReadyH.nil
              go_simp
              refine (unhide G1 _).mono ?_
              rintro e n2 ⟨rfl, kn2⟩
              go_wp2_with fail
              refine hK0.out _ _ ?hSc8 (fun hHeld1 => ?_)
              case hSc8 => exact unhide SK4 _ (keep_call hHeld kn2)
              clear hK0 K0 hHeld
              have hHeld := hHeld1
              clear hHeld1
              try simp only [Act.put, List.setIfInBounds_toArray, List.set_cons_zero, List.set_cons_succ]
              refine wpAnyH_ready (rs := [10]) (by kernel_rfl) (by simp) ?_
              refine AllReadyH.cons rfl (fun K0 hK0 => ?_) AllReadyH.nil
              go_simp
              refine (unhide G2 _ ((unhide HI4).below hHeld.1)).mono ?_
              rintro e n3 ⟨rfl, kn3⟩
              go_wp2_with fail
              refine hK0.out _ _ ?hSc10 (fun hHeld1 => ?_)
              case hSc10 => exact unhide SK4 _ (keep_call hHeld kn3)
              clear hK0 K0 hHeld
              have hHeld := hHeld1
              clear hHeld1
              try simp only [Act.put, List.setIfInBounds_toArray, List.set_cons_zero, List.set_cons_succ]
              refine takeAt 11 (some 54) ?vc11 ⟨_, rfl, rfl, rfl, ?hyc11⟩ (by kernel_rfl) (by kernel_rfl) (by kernel_rfl) (fun _ _ _ h => h) (by assumption) ?_
              case hyc11 => (intro w0 hSw; (try dsimp only at hSw); go_simp; try (with_reducible rfl))
              simp only [Act.put, List.setIfInBounds_toArray, List.set_cons_zero, List.set_cons_succ]
              refine takeAt 12 (some 55) ?vc12 ⟨_, rfl, rfl, rfl, ?hyc12⟩ (by kernel_rfl) (by kernel_rfl) (by kernel_rfl) (fun _ _ _ h => h) (by assumption) ?_
              case hyc12 => (intro w0 hSw; (try dsimp only at hSw); go_simp; try (with_reducible rfl))
              simp only [Act.put, List.setIfInBounds_toArray, List.set_cons_zero, List.set_cons_succ]
              refine takeAt 13 (some 56) ?vc13 ⟨_, rfl, rfl, rfl, ?hyc13⟩ (by kernel_rfl) (by kernel_rfl) (by kernel_rfl) (fun _ _ _ h => h) (by assumption) ?_
              case hyc13 => (intro w0 hSw; (try dsimp only at hSw); go_simp; try (with_reducible rfl))
              simp only [Act.put, List.setIfInBounds_toArray, List.set_cons_zero, List.set_cons_succ]
              refine takeAt 14 (some 57) ?vc14 ⟨_, rfl, rfl, rfl, ?hyc14⟩ (by kernel_rfl) (by kernel_rfl) (by kernel_rfl) (fun _ _ _ h => h) (by assumption) ?_
              case hyc14 => (intro w0 hSw; (try dsimp only at hSw); go_simp; try (with_reducible rfl))
              simp only [Act.put, List.setIfInBounds_toArray, List.set_cons_zero, List.set_cons_succ]
              refine takeAt 15 (some 58) ?vc15 ⟨_, rfl, rfl, rfl, ?hyc15⟩ (by kernel_rfl) (by kernel_rfl) (by kernel_rfl) (fun _ _ _ h => h) (by assumption) ?_
              case hyc15 => (intro w0 hSw; (try dsimp only at hSw); go_simp; try (with_reducible rfl))
              simp only [Act.put, List.setIfInBounds_toArray, List.set_cons_zero, List.set_cons_succ]
              refine takeAt 16 (some 59) ?vc16 ⟨_, rfl, rfl, rfl, ?hyc16⟩ (by kernel_rfl) (by kernel_rfl) (by kernel_rfl) (fun _ _ _ h => h) (by assumption) ?_
              case hyc16 => (intro w0 hSw; (try dsimp only at hSw); go_simp; try (with_reducible rfl))
              simp only [Act.put, List.setIfInBounds_toArray, List.set_cons_zero, List.set_cons_succ]
              refine takeAt 17 (some 60) ?vc17 ⟨_, rfl, rfl, rfl, ?hyc17⟩ (by kernel_rfl) (by kernel_rfl) (by kernel_rfl) (fun _ _ _ h => h) (by assumption) ?_
              case hyc17 => (intro w0 hSw; (try dsimp only at hSw); go_simp; try (with_reducible rfl))
              simp only [Act.put, List.setIfInBounds_toArray, List.set_cons_zero, List.set_cons_succ]
              refine takeAt 18 (some 61) ?vc18 ⟨_, rfl, rfl, rfl, ?hyc18⟩ (by kernel_rfl) (by kernel_rfl) (by kernel_rfl) (fun _ _ _ h => h) (by assumption) ?_
              case hyc18 => (intro w0 hSw; (try dsimp only at hSw); go_simp; try (with_reducible rfl))
              simp only [Act.put, List.setIfInBounds_toArray, List.set_cons_zero, List.set_cons_succ]
              refine takeAt 19 (some 62) ?vc19 ⟨_, rfl, rfl, rfl, ?hyc19⟩ (by kernel_rfl) (by kernel_rfl) (by kernel_rfl) (fun _ _ _ h => h) (by assumption) ?_
              case hyc19 => (intro w0 hSw; (try dsimp only at hSw); go_simp; try (with_reducible rfl))
              simp only [Act.put, List.setIfInBounds_toArray, List.set_cons_zero, List.set_cons_succ]
              refine takeAt 20 (some 63) ?vc20 ⟨_, rfl, rfl, rfl, ?hyc20⟩ (by kernel_rfl) (by kernel_rfl) (by kernel_rfl) (fun _ _ _ h => h) (by assumption) ?_
              case hyc20 => (intro w0 hSw; (try dsimp only at hSw); go_simp; try (with_reducible rfl))
              simp only [Act.put, List.setIfInBounds_toArray, List.set_cons_zero, List.set_cons_succ]
              refine takeAt 21 (some 64) ?vc21 ⟨_, rfl, rfl, rfl, ?hyc21⟩ (by kernel_rfl) (by kernel_rfl) (by kernel_rfl) (fun _ _ _ h => h) (by assumption) ?_
              case hyc21 => (intro w0 hSw; (try dsimp only at hSw); go_simp; try (with_reducible rfl))
              simp only [Act.put, List.setIfInBounds_toArray, List.set_cons_zero, List.set_cons_succ]
              refine takeAt 22 (some 65) ?vc22 ⟨_, rfl, rfl, rfl, ?hyc22⟩ (by kernel_rfl) (by kernel_rfl) (by kernel_rfl) (fun _ _ _ h => h) (by assumption) ?_
              case hyc22 => (intro w0 hSw; (try dsimp only at hSw); go_simp; try (with_reducible rfl))
              simp only [Act.put, List.setIfInBounds_toArray, List.set_cons_zero, List.set_cons_succ]
              refine takeAt 23 (some 66) ?vc23 ⟨_, rfl, rfl, rfl, ?hyc23⟩ (by kernel_rfl) (by kernel_rfl) (by kernel_rfl) (fun _ _ _ h => h) (by assumption) ?_
              case hyc23 => (intro w0 hSw; (try dsimp only at hSw); go_simp; try (with_reducible rfl))
              simp only [Act.put, List.setIfInBounds_toArray, List.set_cons_zero, List.set_cons_succ]
              refine wpAnyH_ready (rs := [24]) (by kernel_rfl) (by simp) ?_
              refine AllReadyH.cons rfl (fun K0 hK0 => ?_) AllReadyH.nil
              go_simp
              refine (known_any _).mono ?_
              rintro e n4 ⟨rfl, kn4⟩
              go_wp2_with fail
              refine hK0.out _ _ ?hSc24 (fun hHeld1 => ?_)
              case hSc24 => exact unhide SK4 _ (keep_call hHeld kn4)
              clear hK0 K0 hHeld
              have hHeld := hHeld1
              clear hHeld1
              try simp only [Act.put, List.setIfInBounds_toArray, List.set_cons_zero, List.set_cons_succ]
              refine takeAt 25 (some 68) ?vc25 ⟨_, rfl, rfl, rfl, ?hyc25⟩ (by kernel_rfl) (by kernel_rfl) (by kernel_rfl) (fun _ _ _ h => h) (by assumption) ?_
              case hyc25 => (intro w0 hSw; (try dsimp only at hSw); go_simp; try (with_reducible rfl))
              simp only [Act.put, List.setIfInBounds_toArray, List.set_cons_zero, List.set_cons_succ]
              refine takeAt 26 (some 4) ?vc26 ⟨_, rfl, rfl, rfl, ?hyc26⟩ (by kernel_rfl) (by kernel_rfl) (by kernel_rfl) (fun _ _ _ h => h) (by assumption) ?_
              case hyc26 => (intro w0 hSw; (try dsimp only at hSw); go_simp; try (with_reducible rfl))
              simp only [Act.put, List.setIfInBounds_toArray, List.set_cons_zero, List.set_cons_succ]
              refine wpAnyH_done (by kernel_rfl) ?_ _
              refine NoPanic.normal ?_
              go_wp2_with fail
              go_ret
              refine ⟨rfl, ?_⟩
              have b := unhide B0
              rw [← unhide HB] at b
              exact bstep b (bstep (unhide B4) hHeld.1)
            · go_upto_region 6 with fail
              refine wp_region_noPanic ?_
              refine wp_region_held_drew (S := fun w' => Below V4.heap.size V4 w' ∧ w'.cell? ⟨B, 0, none⟩ = some (.int .i64 1) ∧ w'.cell? ⟨B, 1, none⟩ = some (.bool b) ∧ w'.cell? ⟨B, 2, none⟩ = some (.int .i64 m) ∧ w'.cell? ⟨B, 3, none⟩ = some (.int .i64 s) ∧ w'.cell? ⟨B, 4, none⟩ = some (.string t) ∧ w'.cell? ⟨B, 5, none⟩ = some (.slice a len cap) ∧ w'.cell? ⟨bp, 0, none⟩ = some (.int .i64 1)) (by kernel_rfl) ?hS0d (fun hHeld => ?_)
              case hS0d => exact unhide SK4 _ (Below.refl _ _).drew
              refine takeAt 0 (some 43) ?vd0 ⟨_, rfl, rfl, rfl, ?hyd0⟩ (by kernel_rfl) (by kernel_rfl) (by kernel_rfl) (fun _ _ _ h => h) (by assumption) ?_
              case hyd0 => (intro w0 hSw; (try dsimp only at hSw); go_simp; try (with_reducible rfl))
              simp only [Act.put, List.setIfInBounds_toArray, List.set_cons_zero, List.set_cons_succ]
              refine takeAt 1 (some 44) ?vd1 ⟨_, rfl, rfl, rfl, ?hyd1⟩ (by kernel_rfl) (by kernel_rfl) (by kernel_rfl) (fun _ _ _ h => h) (by assumption) ?_
              case hyd1 => (intro w0 hSw; (try dsimp only at hSw); go_simp; try (with_reducible rfl))
              simp only [Act.put, List.setIfInBounds_toArray, List.set_cons_zero, List.set_cons_succ]
              refine takeAt 2 (some 45) ?vd2 ⟨_, rfl, rfl, rfl, ?hyd2⟩ (by kernel_rfl) (by kernel_rfl) (by kernel_rfl) (fun _ _ _ h => h) (by assumption) ?_
              case hyd2 => (intro w0 hSw; (try dsimp only at hSw); go_simp; try (with_reducible rfl))
              simp only [Act.put, List.setIfInBounds_toArray, List.set_cons_zero, List.set_cons_succ]
              refine takeAt 3 (some 46) ?vd3 ⟨_, rfl, rfl, rfl, ?hyd3⟩ (by kernel_rfl) (by kernel_rfl) (by kernel_rfl) (fun _ _ _ h => h) (by assumption) ?_
              case hyd3 => (intro w0 hSw; (try dsimp only at hSw); go_simp; try (with_reducible rfl))
              simp only [Act.put, List.setIfInBounds_toArray, List.set_cons_zero, List.set_cons_succ]
              refine takeAt 4 (some 47) ?vd4 ⟨_, rfl, rfl, rfl, ?hyd4⟩ (by kernel_rfl) (by kernel_rfl) (by kernel_rfl) (fun _ _ _ h => h) (by assumption) ?_
              case hyd4 => (intro w0 hSw; (try dsimp only at hSw); go_simp; try (with_reducible rfl))
              simp only [Act.put, List.setIfInBounds_toArray, List.set_cons_zero, List.set_cons_succ]
              refine takeAt 5 (some 48) ?vd5 ⟨_, rfl, rfl, rfl, ?hyd5⟩ (by kernel_rfl) (by kernel_rfl) (by kernel_rfl) (fun _ _ _ h => h) (by assumption) ?_
              case hyd5 => (intro w0 hSw; (try dsimp only at hSw); go_simp; try (with_reducible rfl))
              simp only [Act.put, List.setIfInBounds_toArray, List.set_cons_zero, List.set_cons_succ]
              refine takeAt 6 (some 49) ?vd6 ⟨_, rfl, rfl, rfl, ?hyd6⟩ (by kernel_rfl) (by kernel_rfl) (by kernel_rfl) (fun _ _ _ h => h) (by assumption) ?_
              case hyd6 => (intro w0 hSw; (try dsimp only at hSw); go_simp; try (with_reducible rfl))
              simp only [Act.put, List.setIfInBounds_toArray, List.set_cons_zero, List.set_cons_succ]
              refine takeAt 9 (some 52) ?vd9 ⟨_, rfl, rfl, rfl, ?hyd9⟩ (by kernel_rfl) (by kernel_rfl) (by kernel_rfl) (fun _ _ _ h => h) (by assumption) ?_
              case hyd9 => (intro w0 hSw; (try dsimp only at hSw); go_simp; try (with_reducible rfl))
              simp only [Act.put, List.setIfInBounds_toArray, List.set_cons_zero, List.set_cons_succ]
              refine wpAnyH_ready (rs := [7]) (by kernel_rfl) (by simp) ?_
              refine AllReadyH.cons rfl (fun K0 hK0 => ?_) AllReadyH.nil
              go_simp
              refine (unhide H5 _).mono ?_
              rintro e n1 ⟨rfl, kn1⟩
              go_wp2_with fail
              refine hK0.out _ _ ?hSd7 (fun hHeld1 => ?_)
              case hSd7 => exact unhide SK4 _ (keep_call hHeld kn1)
              clear hK0 K0 hHeld
              have hHeld := hHeld1
              clear hHeld1
              try simp only [Act.put, List.setIfInBounds_toArray, List.set_cons_zero, List.set_cons_succ]
              refine wpAnyH_ready (rs := [8]) (by kernel_rfl) (by simp) ?_
              refine AllReadyH.cons rfl (fun K0 hK0 => ?_) AllReadyH.nil
              go_simp
              refine (unhide G1 _).mono ?_
              rintro e n2 ⟨rfl, kn2⟩
              go_wp2_with fail
              refine hK0.out _ _ ?hSd8 (fun hHeld1 => ?_)
              case hSd8 => exact unhide SK4 _ (keep_call hHeld kn2)
              clear hK0 K0 hHeld
              have hHeld := hHeld1
              clear hHeld1
              try simp only [Act.put, List.setIfInBounds_toArray, List.set_cons_zero, List.set_cons_succ]
              refine wpAnyH_ready (rs := [10]) (by kernel_rfl) (by simp) ?_
              refine AllReadyH.cons rfl (fun K0 hK0 => ?_) AllReadyH.nil
              go_simp
              refine (unhide G2 _ ((unhide HI4).below hHeld.1)).mono ?_
              rintro e n3 ⟨rfl, kn3⟩
              go_wp2_with fail
              refine hK0.out _ _ ?hSd10 (fun hHeld1 => ?_)
              case hSd10 => exact unhide SK4 _ (keep_call hHeld kn3)
              clear hK0 K0 hHeld
              have hHeld := hHeld1
              clear hHeld1
              try simp only [Act.put, List.setIfInBounds_toArray, List.set_cons_zero, List.set_cons_succ]
              refine takeAt 11 (some 54) ?vd11 ⟨_, rfl, rfl, rfl, ?hyd11⟩ (by kernel_rfl) (by kernel_rfl) (by kernel_rfl) (fun _ _ _ h => h) (by assumption) ?_
              case hyd11 => (intro w0 hSw; (try dsimp only at hSw); go_simp; try (with_reducible rfl))
              simp only [Act.put, List.setIfInBounds_toArray, List.set_cons_zero, List.set_cons_succ]
              refine takeAt 12 (some 55) ?vd12 ⟨_, rfl, rfl, rfl, ?hyd12⟩ (by kernel_rfl) (by kernel_rfl) (by kernel_rfl) (fun _ _ _ h => h) (by assumption) ?_
              case hyd12 => (intro w0 hSw; (try dsimp only at hSw); go_simp; try (with_reducible rfl))
              simp only [Act.put, List.setIfInBounds_toArray, List.set_cons_zero, List.set_cons_succ]
              refine takeAt 13 (some 56) ?vd13 ⟨_, rfl, rfl, rfl, ?hyd13⟩ (by kernel_rfl) (by kernel_rfl) (by kernel_rfl) (fun _ _ _ h => h) (by assumption) ?_
              case hyd13 => (intro w0 hSw; (try dsimp only at hSw); go_simp; try (with_reducible rfl))
              simp only [Act.put, List.setIfInBounds_toArray, List.set_cons_zero, List.set_cons_succ]
              refine takeAt 14 (some 57) ?vd14 ⟨_, rfl, rfl, rfl, ?hyd14⟩ (by kernel_rfl) (by kernel_rfl) (by kernel_rfl) (fun _ _ _ h => h) (by assumption) ?_
              case hyd14 => (intro w0 hSw; (try dsimp only at hSw); go_simp; try (with_reducible rfl))
              simp only [Act.put, List.setIfInBounds_toArray, List.set_cons_zero, List.set_cons_succ]
              refine takeAt 15 (some 58) ?vd15 ⟨_, rfl, rfl, rfl, ?hyd15⟩ (by kernel_rfl) (by kernel_rfl) (by kernel_rfl) (fun _ _ _ h => h) (by assumption) ?_
              case hyd15 => (intro w0 hSw; (try dsimp only at hSw); go_simp; try (with_reducible rfl))
              simp only [Act.put, List.setIfInBounds_toArray, List.set_cons_zero, List.set_cons_succ]
              refine takeAt 16 (some 59) ?vd16 ⟨_, rfl, rfl, rfl, ?hyd16⟩ (by kernel_rfl) (by kernel_rfl) (by kernel_rfl) (fun _ _ _ h => h) (by assumption) ?_
              case hyd16 => (intro w0 hSw; (try dsimp only at hSw); go_simp; try (with_reducible rfl))
              simp only [Act.put, List.setIfInBounds_toArray, List.set_cons_zero, List.set_cons_succ]
              refine takeAt 17 (some 60) ?vd17 ⟨_, rfl, rfl, rfl, ?hyd17⟩ (by kernel_rfl) (by kernel_rfl) (by kernel_rfl) (fun _ _ _ h => h) (by assumption) ?_
              case hyd17 => (intro w0 hSw; (try dsimp only at hSw); go_simp; try (with_reducible rfl))
              simp only [Act.put, List.setIfInBounds_toArray, List.set_cons_zero, List.set_cons_succ]
              refine skipAt 18 (some 61) ⟨_, rfl, rfl, rfl⟩ (by kernel_rfl) (by kernel_rfl) (by kernel_rfl) (fun _ _ _ h => h) (by assumption) ?_
              simp only [Act.put, List.setIfInBounds_toArray, List.set_cons_zero, List.set_cons_succ]
              refine skipAt 19 (some 62) ⟨_, rfl, rfl, rfl⟩ (by kernel_rfl) (by kernel_rfl) (by kernel_rfl) (fun _ _ _ h => h) (by assumption) ?_
              simp only [Act.put, List.setIfInBounds_toArray, List.set_cons_zero, List.set_cons_succ]
              refine skipAt 20 (some 63) ⟨_, rfl, rfl, rfl⟩ (by kernel_rfl) (by kernel_rfl) (by kernel_rfl) (fun _ _ _ h => h) (by assumption) ?_
              simp only [Act.put, List.setIfInBounds_toArray, List.set_cons_zero, List.set_cons_succ]
              refine takeAt 21 (some 64) ?vd21 ⟨_, rfl, rfl, rfl, ?hyd21⟩ (by kernel_rfl) (by kernel_rfl) (by kernel_rfl) (fun _ _ _ h => h) (by assumption) ?_
              case hyd21 => (intro w0 hSw; (try dsimp only at hSw); go_simp; try (with_reducible rfl))
              simp only [Act.put, List.setIfInBounds_toArray, List.set_cons_zero, List.set_cons_succ]
              refine takeAt 22 (some 65) ?vd22 ⟨_, rfl, rfl, rfl, ?hyd22⟩ (by kernel_rfl) (by kernel_rfl) (by kernel_rfl) (fun _ _ _ h => h) (by assumption) ?_
              case hyd22 => (intro w0 hSw; (try dsimp only at hSw); go_simp; try (with_reducible rfl))
              simp only [Act.put, List.setIfInBounds_toArray, List.set_cons_zero, List.set_cons_succ]
              refine takeAt 23 (some 66) ?vd23 ⟨_, rfl, rfl, rfl, ?hyd23⟩ (by kernel_rfl) (by kernel_rfl) (by kernel_rfl) (fun _ _ _ h => h) (by assumption) ?_
              case hyd23 => (intro w0 hSw; (try dsimp only at hSw); go_simp; try (with_reducible rfl))
              simp only [Act.put, List.setIfInBounds_toArray, List.set_cons_zero, List.set_cons_succ]
              refine wpAnyH_ready (rs := [24]) (by kernel_rfl) (by simp) ?_
              refine AllReadyH.cons rfl (fun K0 hK0 => ?_) AllReadyH.nil
              go_simp
              refine (known_any _).mono ?_
              rintro e n4 ⟨rfl, kn4⟩
              go_wp2_with fail
              refine hK0.out _ _ ?hSd24 (fun hHeld1 => ?_)
              case hSd24 => exact unhide SK4 _ (keep_call hHeld kn4)
              clear hK0 K0 hHeld
              have hHeld := hHeld1
              clear hHeld1
              try simp only [Act.put, List.setIfInBounds_toArray, List.set_cons_zero, List.set_cons_succ]
              refine takeAt 25 (some 68) ?vd25 ⟨_, rfl, rfl, rfl, ?hyd25⟩ (by kernel_rfl) (by kernel_rfl) (by kernel_rfl) (fun _ _ _ h => h) (by assumption) ?_
              case hyd25 => (intro w0 hSw; (try dsimp only at hSw); go_simp; try (with_reducible rfl))
              simp only [Act.put, List.setIfInBounds_toArray, List.set_cons_zero, List.set_cons_succ]
              refine takeAt 26 (some 4) ?vd26 ⟨_, rfl, rfl, rfl, ?hyd26⟩ (by kernel_rfl) (by kernel_rfl) (by kernel_rfl) (fun _ _ _ h => h) (by assumption) ?_
              case hyd26 => (intro w0 hSw; (try dsimp only at hSw); go_simp; try (with_reducible rfl))
              simp only [Act.put, List.setIfInBounds_toArray, List.set_cons_zero, List.set_cons_succ]
              refine wpAnyH_done (by kernel_rfl) ?_ _
              refine NoPanic.normal ?_
              go_wp2_with fail
              go_ret
              refine ⟨rfl, ?_⟩
              have b := unhide B0
              rw [← unhide HB] at b
              exact bstep b (bstep (unhide B4) hHeld.1)
          · have e1 : (k == 1) = false := by simpa using k1
            have n1 : (k != 1) = true := by simpa using k1
            clear H12 k1 H5
            rcases d1 with rfl | rfl
            · go_upto_region 6 with fail
              refine wp_region_noPanic ?_
              refine wp_region_held_drew (S := fun w' => Below V4.heap.size V4 w' ∧ w'.cell? ⟨B, 0, none⟩ = some (.int .i64 k) ∧ w'.cell? ⟨B, 1, none⟩ = some (.bool b) ∧ w'.cell? ⟨B, 2, none⟩ = some (.int .i64 m) ∧ w'.cell? ⟨B, 3, none⟩ = some (.int .i64 s) ∧ w'.cell? ⟨B, 4, none⟩ = some (.string t) ∧ w'.cell? ⟨B, 5, none⟩ = some (.slice a len cap) ∧ w'.cell? ⟨bp, 0, none⟩ = some (.int .i64 0)) (by kernel_rfl) ?hS0e (fun hHeld => ?_)
              case hS0e => exact unhide SK4 _ (Below.refl _ _).drew
              refine takeAt 0 (some 43) ?ve0 ⟨_, rfl, rfl, rfl, ?hye0⟩ (by kernel_rfl) (by kernel_rfl) (by kernel_rfl) (fun _ _ _ h => h) (by assumption) ?_
              case hye0 => (intro w0 hSw; (try dsimp only at hSw); go_simp; try (with_reducible rfl))
              simp only [Act.put, List.setIfInBounds_toArray, List.set_cons_zero, List.set_cons_succ]
              refine takeAt 1 (some 44) ?ve1 ⟨_, rfl, rfl, rfl, ?hye1⟩ (by kernel_rfl) (by kernel_rfl) (by kernel_rfl) (fun _ _ _ h => h) (by assumption) ?_
              case hye1 => (intro w0 hSw; (try dsimp only at hSw); go_simp; try (with_reducible rfl))
              simp only [Act.put, List.setIfInBounds_toArray, List.set_cons_zero, List.set_cons_succ]
              refine takeAt 2 (some 45) ?ve2 ⟨_, rfl, rfl, rfl, ?hye2⟩ (by kernel_rfl) (by kernel_rfl) (by kernel_rfl) (fun _ _ _ h => h) (by assumption) ?_
              case hye2 => (intro w0 hSw; (try dsimp only at hSw); go_simp; try (with_reducible rfl))
              simp only [Act.put, List.setIfInBounds_toArray, List.set_cons_zero, List.set_cons_succ]
              refine takeAt 3 (some 46) ?ve3 ⟨_, rfl, rfl, rfl, ?hye3⟩ (by kernel_rfl) (by kernel_rfl) (by kernel_rfl) (fun _ _ _ h => h) (by assumption) ?_
              case hye3 => (intro w0 hSw; (try dsimp only at hSw); go_simp; try (with_reducible rfl))
              simp only [Act.put, List.setIfInBounds_toArray, List.set_cons_zero, List.set_cons_succ]
              refine takeAt 4 (some 47) ?ve4 ⟨_, rfl, rfl, rfl, ?hye4⟩ (by kernel_rfl) (by kernel_rfl) (by kernel_rfl) (fun _ _ _ h => h) (by assumption) ?_
              case hye4 => (intro w0 hSw; (try dsimp only at hSw); go_simp; try (with_reducible rfl))
              simp only [Act.put, List.setIfInBounds_toArray, List.set_cons_zero, List.set_cons_succ]
              refine takeAt 5 (some 48) ?ve5 ⟨_, rfl, rfl, rfl, ?hye5⟩ (by kernel_rfl) (by kernel_rfl) (by kernel_rfl) (fun _ _ _ h => h) (by assumption) ?_
              case hye5 => (intro w0 hSw; (try dsimp only at hSw); go_simp; try (with_reducible rfl))
              simp only [Act.put, List.setIfInBounds_toArray, List.set_cons_zero, List.set_cons_succ]
              refine skipAt 6 (some 49) ⟨_, rfl, rfl, rfl⟩ (by kernel_rfl) (by kernel_rfl) (by kernel_rfl) (fun _ _ _ h => h) (by assumption) ?_
              simp only [Act.put, List.setIfInBounds_toArray, List.set_cons_zero, List.set_cons_succ]
              refine skipAt 7 (some 50) ⟨_, rfl, rfl, rfl⟩ (by kernel_rfl) (by kernel_rfl) (by kernel_rfl) (fun _ _ _ h => h) (by assumption) ?_
              simp only [Act.put, List.setIfInBounds_toArray, List.set_cons_zero, List.set_cons_succ]
              refine skipAt 8 (some 51) ⟨_, rfl, rfl, rfl⟩ (by kernel_rfl) (by kernel_rfl) (by kernel_rfl) (fun _ _ _ h => h) (by assumption) ?_
              simp only [Act.put, List.setIfInBounds_toArray, List.set_cons_zero, List.set_cons_succ]
              refine skipAt 9 (some 52) ⟨_, rfl, rfl, rfl⟩ (by kernel_rfl) (by kernel_rfl) (by kernel_rfl) (fun _ _ _ h => h) (by assumption) ?_
              simp only [Act.put, List.setIfInBounds_toArray, List.set_cons_zero, List.set_cons_succ]
              refine skipAt 10 (some 53) ⟨_, rfl, rfl, rfl⟩ (by kernel_rfl) (by kernel_rfl) (by kernel_rfl) (fun _ _ _ h => h) (by assumption) ?_
              simp only [Act.put, List.setIfInBounds_toArray, List.set_cons_zero, List.set_cons_succ]
              refine takeAt 11 (some 54) ?ve11 ⟨_, rfl, rfl, rfl, ?hye11⟩ (by kernel_rfl) (by kernel_rfl) (by kernel_rfl) (fun _ _ _ h => h) (by assumption) ?_
              case hye11 => (intro w0 hSw; (try dsimp only at hSw); go_simp; try (with_reducible rfl))
              simp only [Act.put, List.setIfInBounds_toArray, List.set_cons_zero, List.set_cons_succ]
              refine takeAt 12 (some 55) ?ve12 ⟨_, rfl, rfl, rfl, ?hye12⟩ (by kernel_rfl) (by kernel_rfl) (by kernel_rfl) (fun _ _ _ h => h) (by assumption) ?_
              case hye12 => (intro w0 hSw; (try dsimp only at hSw); go_simp; try (with_reducible rfl))
              simp only [Act.put, List.setIfInBounds_toArray, List.set_cons_zero, List.set_cons_succ]
              refine takeAt 13 (some 56) ?ve13 ⟨_, rfl, rfl, rfl, ?hye13⟩ (by kernel_rfl) (by kernel_rfl) (by kernel_rfl) (fun _ _ _ h => h) (by assumption) ?_
              case hye13 => (intro w0 hSw; (try dsimp only at hSw); go_simp; try (with_reducible rfl))
              simp only [Act.put, List.setIfInBounds_toArray, List.set_cons_zero, List.set_cons_succ]
              refine takeAt 14 (some 57) ?ve14 ⟨_, rfl, rfl, rfl, ?hye14⟩ (by kernel_rfl) (by kernel_rfl) (by kernel_rfl) (fun _ _ _ h => h) (by assumption) ?_
              case hye14 => (intro w0 hSw; (try dsimp only at hSw); go_simp; try (with_reducible rfl))
              simp only [Act.put, List.setIfInBounds_toArray, List.set_cons_zero, List.set_cons_succ]
              refine takeAt 15 (some 58) ?ve15 ⟨_, rfl, rfl, rfl, ?hye15⟩ (by kernel_rfl) (by kernel_rfl) (by kernel_rfl) (fun _ _ _ h => h) (by assumption) ?_
              case hye15 => (intro w0 hSw; (try dsimp only at hSw); go_simp; try (with_reducible rfl))
              simp only [Act.put, List.setIfInBounds_toArray, List.set_cons_zero, List.set_cons_succ]
              refine takeAt 16 (some 59) ?ve16 ⟨_, rfl, rfl, rfl, ?hye16⟩ (by kernel_rfl) (by kernel_rfl) (by kernel_rfl) (fun _ _ _ h => h) (by assumption) ?_
              case hye16 => (intro w0 hSw; (try dsimp only at hSw); go_simp; try (with_reducible rfl))
              simp only [Act.put, List.setIfInBounds_toArray, List.set_cons_zero, List.set_cons_succ]
              refine takeAt 17 (some 60) ?ve17 ⟨_, rfl, rfl, rfl, ?hye17⟩ (by kernel_rfl) (by kernel_rfl) (by kernel_rfl) (fun _ _ _ h => h) (by assumption) ?_
              case hye17 => (intro w0 hSw; (try dsimp only at hSw); go_simp; try (with_reducible rfl))
              simp only [Act.put, List.setIfInBounds_toArray, List.set_cons_zero, List.set_cons_succ]
              refine takeAt 18 (some 61) ?ve18 ⟨_, rfl, rfl, rfl, ?hye18⟩ (by kernel_rfl) (by kernel_rfl) (by kernel_rfl) (fun _ _ _ h => h) (by assumption) ?_
              case hye18 => (intro w0 hSw; (try dsimp only at hSw); go_simp; try (with_reducible rfl))
              simp only [Act.put, List.setIfInBounds_toArray, List.set_cons_zero, List.set_cons_succ]
              refine takeAt 19 (some 62) ?ve19 ⟨_, rfl, rfl, rfl, ?hye19⟩ (by kernel_rfl) (by kernel_rfl) (by kernel_rfl) (fun _ _ _ h => h) (by assumption) ?_
              case hye19 => (intro w0 hSw; (try dsimp only at hSw); go_simp; try (with_reducible rfl))
              simp only [Act.put, List.setIfInBounds_toArray, List.set_cons_zero, List.set_cons_succ]
              refine takeAt 20 (some 63) ?ve20 ⟨_, rfl, rfl, rfl, ?hye20⟩ (by kernel_rfl) (by kernel_rfl) (by kernel_rfl) (fun _ _ _ h => h) (by assumption) ?_
              case hye20 => (intro w0 hSw; (try dsimp only at hSw); go_simp; try (with_reducible rfl))
              simp only [Act.put, List.setIfInBounds_toArray, List.set_cons_zero, List.set_cons_succ]
              refine takeAt 21 (some 64) ?ve21 ⟨_, rfl, rfl, rfl, ?hye21⟩ (by kernel_rfl) (by kernel_rfl) (by kernel_rfl) (fun _ _ _ h => h) (by assumption) ?_
              case hye21 => (intro w0 hSw; (try dsimp only at hSw); go_simp; try (with_reducible rfl))
              simp only [Act.put, List.setIfInBounds_toArray, List.set_cons_zero, List.set_cons_succ]
              refine takeAt 22 (some 65) ?ve22 ⟨_, rfl, rfl, rfl, ?hye22⟩ (by kernel_rfl) (by kernel_rfl) (by kernel_rfl) (fun _ _ _ h => h) (by assumption) ?_
              case hye22 => (intro w0 hSw; (try dsimp only at hSw); go_simp; try (with_reducible rfl))
              simp only [Act.put, List.setIfInBounds_toArray, List.set_cons_zero, List.set_cons_succ]
              refine takeAt 23 (some 66) ?ve23 ⟨_, rfl, rfl, rfl, ?hye23⟩ (by kernel_rfl) (by kernel_rfl) (by kernel_rfl) (fun _ _ _ h => h) (by assumption) ?_
              case hye23 => (intro w0 hSw; (try dsimp only at hSw); go_simp; try (with_reducible rfl))
              simp only [Act.put, List.setIfInBounds_toArray, List.set_cons_zero, List.set_cons_succ]
              refine wpAnyH_ready (rs := [24]) (by kernel_rfl) (by simp) ?_
              refine AllReadyH.cons rfl (fun K0 hK0 => ?_) AllReadyH.nil
              go_simp
              refine (known_any _).mono ?_
              rintro e n4 ⟨rfl, kn4⟩
              go_wp2_with fail
              refine hK0.out _ _ ?hSe24 (fun hHeld1 => ?_)
              case hSe24 => exact unhide SK4 _ (keep_call hHeld kn4)
              clear hK0 K0 hHeld
              have hHeld := hHeld1
              clear hHeld1
              try simp only [Act.put, List.setIfInBounds_toArray, List.set_cons_zero, List.set_cons_succ]
              refine takeAt 25 (some 68) ?ve25 ⟨_, rfl, rfl, rfl, ?hye25⟩ (by kernel_rfl) (by kernel_rfl) (by kernel_rfl) (fun _ _ _ h => h) (by assumption) ?_
              case hye25 => (intro w0 hSw; (try dsimp only at hSw); go_simp; try (with_reducible rfl))
              simp only [Act.put, List.setIfInBounds_toArray, List.set_cons_zero, List.set_cons_succ]
              refine takeAt 26 (some 4) ?ve26 ⟨_, rfl, rfl, rfl, ?hye26⟩ (by kernel_rfl) (by kernel_rfl) (by kernel_rfl) (fun _ _ _ h => h) (by assumption) ?_
              case hye26 => (intro w0 hSw; (try dsimp only at hSw); go_simp; try (with_reducible rfl))
              simp only [Act.put, List.setIfInBounds_toArray, List.set_cons_zero, List.set_cons_succ]
              refine wpAnyH_done (by kernel_rfl) ?_ _
              refine NoPanic.normal ?_
              go_wp2_with fail
              go_ret
              refine ⟨rfl, ?_⟩
              have b := unhide B0
              rw [← unhide HB] at b
              exact bstep b (bstep (unhide B4) hHeld.1)
            · go_upto_region 6 with fail
              refine wp_region_noPanic ?_
              refine wp_region_held_drew (S := fun w' => Below V4.heap.size V4 w' ∧ w'.cell? ⟨B, 0, none⟩ = some (.int .i64 k) ∧ w'.cell? ⟨B, 1, none⟩ = some (.bool b) ∧ w'.cell? ⟨B, 2, none⟩ = some (.int .i64 m) ∧ w'.cell? ⟨B, 3, none⟩ = some (.int .i64 s) ∧ w'.cell? ⟨B, 4, none⟩ = some (.string t) ∧ w'.cell? ⟨B, 5, none⟩ = some (.slice a len cap) ∧ w'.cell? ⟨bp, 0, none⟩ = some (.int .i64 1)) (by kernel_rfl) ?hS0f (fun hHeld => ?_)
              case hS0f => exact unhide SK4 _ (Below.refl _ _).drew
              refine takeAt 0 (some 43) ?vf0 ⟨_, rfl, rfl, rfl, ?hyf0⟩ (by kernel_rfl) (by kernel_rfl) (by kernel_rfl) (fun _ _ _ h => h) (by assumption) ?_
              case hyf0 => (intro w0 hSw; (try dsimp only at hSw); go_simp; try (with_reducible rfl))
              simp only [Act.put, List.setIfInBounds_toArray, List.set_cons_zero, List.set_cons_succ]
              refine takeAt 1 (some 44) ?vf1 ⟨_, rfl, rfl, rfl, ?hyf1⟩ (by kernel_rfl) (by kernel_rfl) (by kernel_rfl) (fun _ _ _ h => h) (by assumption) ?_
              case hyf1 => (intro w0 hSw; (try dsimp only at hSw); go_simp; try (with_reducible rfl))
              simp only [Act.put, List.setIfInBounds_toArray, List.set_cons_zero, List.set_cons_succ]
              refine takeAt 2 (some 45) ?vf2 ⟨_, rfl, rfl, rfl, ?hyf2⟩ (by kernel_rfl) (by kernel_rfl) (by kernel_rfl) (fun _ _ _ h => h) (by assumption) ?_
              case hyf2 => (intro w0 hSw; (try dsimp only at hSw); go_simp; try (with_reducible rfl))
              simp only [Act.put, List.setIfInBounds_toArray, List.set_cons_zero, List.set_cons_succ]
              refine takeAt 3 (some 46) ?vf3 ⟨_, rfl, rfl, rfl, ?hyf3⟩ (by kernel_rfl) (by kernel_rfl) (by kernel_rfl) (fun _ _ _ h => h) (by assumption) ?_
              case hyf3 => (intro w0 hSw; (try dsimp only at hSw); go_simp; try (with_reducible rfl))
              simp only [Act.put, List.setIfInBounds_toArray, List.set_cons_zero, List.set_cons_succ]
              refine takeAt 4 (some 47) ?vf4 ⟨_, rfl, rfl, rfl, ?hyf4⟩ (by kernel_rfl) (by kernel_rfl) (by kernel_rfl) (fun _ _ _ h => h) (by assumption) ?_
              case hyf4 => (intro w0 hSw; (try dsimp only at hSw); go_simp; try (with_reducible rfl))
              simp only [Act.put, List.setIfInBounds_toArray, List.set_cons_zero, List.set_cons_succ]
              refine takeAt 5 (some 48) ?vf5 ⟨_, rfl, rfl, rfl, ?hyf5⟩ (by kernel_rfl) (by kernel_rfl) (by kernel_rfl) (fun _ _ _ h => h) (by assumption) ?_
              case hyf5 => (intro w0 hSw; (try dsimp only at hSw); go_simp; try (with_reducible rfl))
              simp only [Act.put, List.setIfInBounds_toArray, List.set_cons_zero, List.set_cons_succ]
              refine skipAt 6 (some 49) ⟨_, rfl, rfl, rfl⟩ (by kernel_rfl) (by kernel_rfl) (by kernel_rfl) (fun _ _ _ h => h) (by assumption) ?_
              simp only [Act.put, List.setIfInBounds_toArray, List.set_cons_zero, List.set_cons_succ]
              refine skipAt 7 (some 50) ⟨_, rfl, rfl, rfl⟩ (by kernel_rfl) (by kernel_rfl) (by kernel_rfl) (fun _ _ _ h => h) (by assumption) ?_
              simp only [Act.put, List.setIfInBounds_toArray, List.set_cons_zero, List.set_cons_succ]
              refine skipAt 8 (some 51) ⟨_, rfl, rfl, rfl⟩ (by kernel_rfl) (by kernel_rfl) (by kernel_rfl) (fun _ _ _ h => h) (by assumption) ?_
              simp only [Act.put, List.setIfInBounds_toArray, List.set_cons_zero, List.set_cons_succ]
              refine skipAt 9 (some 52) ⟨_, rfl, rfl, rfl⟩ (by kernel_rfl) (by kernel_rfl) (by kernel_rfl) (fun _ _ _ h => h) (by assumption) ?_
              simp only [Act.put, List.setIfInBounds_toArray, List.set_cons_zero, List.set_cons_succ]
              refine skipAt 10 (some 53) ⟨_, rfl, rfl, rfl⟩ (by kernel_rfl) (by kernel_rfl) (by kernel_rfl) (fun _ _ _ h => h) (by assumption) ?_
              simp only [Act.put, List.setIfInBounds_toArray, List.set_cons_zero, List.set_cons_succ]
              refine takeAt 11 (some 54) ?vf11 ⟨_, rfl, rfl, rfl, ?hyf11⟩ (by kernel_rfl) (by kernel_rfl) (by kernel_rfl) (fun _ _ _ h => h) (by assumption) ?_
              case hyf11 => (intro w0 hSw; (try dsimp only at hSw); go_simp; try (with_reducible rfl))
              simp only [Act.put, List.setIfInBounds_toArray, List.set_cons_zero, List.set_cons_succ]
              refine takeAt 12 (some 55) ?vf12 ⟨_, rfl, rfl, rfl, ?hyf12⟩ (by kernel_rfl) (by kernel_rfl) (by kernel_rfl) (fun _ _ _ h => h) (by assumption) ?_
              case hyf12 => (intro w0 hSw; (try dsimp only at hSw); go_simp; try (with_reducible rfl))
              simp only [Act.put, List.setIfInBounds_toArray, List.set_cons_zero, List.set_cons_succ]
              refine takeAt 13 (some 56) ?vf13 ⟨_, rfl, rfl, rfl, ?hyf13⟩ (by kernel_rfl) (by kernel_rfl) (by kernel_rfl) (fun _ _ _ h => h) (by assumption) ?_
              case hyf13 => (intro w0 hSw; (try dsimp only at hSw); go_simp; try (with_reducible rfl))
              simp only [Act.put, List.setIfInBounds_toArray, List.set_cons_zero, List.set_cons_succ]
              refine takeAt 14 (some 57) ?vf14 ⟨_, rfl, rfl, rfl, ?hyf14⟩ (by kernel_rfl) (by kernel_rfl) (by kernel_rfl) (fun _ _ _ h => h) (by assumption) ?_
              case hyf14 => (intro w0 hSw; (try dsimp only at hSw); go_simp; try (with_reducible rfl))
              simp only [Act.put, List.setIfInBounds_toArray, List.set_cons_zero, List.set_cons_succ]
              refine takeAt 15 (some 58) ?vf15 ⟨_, rfl, rfl, rfl, ?hyf15⟩ (by kernel_rfl) (by kernel_rfl) (by kernel_rfl) (fun _ _ _ h => h) (by assumption) ?_
              case hyf15 => (intro w0 hSw; (try dsimp only at hSw); go_simp; try (with_reducible rfl))
              simp only [Act.put, List.setIfInBounds_toArray, List.set_cons_zero, List.set_cons_succ]
              refine takeAt 16 (some 59) ?vf16 ⟨_, rfl, rfl, rfl, ?hyf16⟩ (by kernel_rfl) (by kernel_rfl) (by kernel_rfl) (fun _ _ _ h => h) (by assumption) ?_
              case hyf16 => (intro w0 hSw; (try dsimp only at hSw); go_simp; try (with_reducible rfl))
              simp only [Act.put, List.setIfInBounds_toArray, List.set_cons_zero, List.set_cons_succ]
              refine takeAt 17 (some 60) ?vf17 ⟨_, rfl, rfl, rfl, ?hyf17⟩ (by kernel_rfl) (by kernel_rfl) (by kernel_rfl) (fun _ _ _ h => h) (by assumption) ?_
              case hyf17 => (intro w0 hSw; (try dsimp only at hSw); go_simp; try (with_reducible rfl))
              simp only [Act.put, List.setIfInBounds_toArray, List.set_cons_zero, List.set_cons_succ]
              refine skipAt 18 (some 61) ⟨_, rfl, rfl, rfl⟩ (by kernel_rfl) (by kernel_rfl) (by kernel_rfl) (fun _ _ _ h => h) (by assumption) ?_
              simp only [Act.put, List.setIfInBounds_toArray, List.set_cons_zero, List.set_cons_succ]
              refine skipAt 19 (some 62) ⟨_, rfl, rfl, rfl⟩ (by kernel_rfl) (by kernel_rfl) (by kernel_rfl) (fun _ _ _ h => h) (by assumption) ?_
              simp only [Act.put, List.setIfInBounds_toArray, List.set_cons_zero, List.set_cons_succ]
              refine skipAt 20 (some 63) ⟨_, rfl, rfl, rfl⟩ (by kernel_rfl) (by kernel_rfl) (by kernel_rfl) (fun _ _ _ h => h) (by assumption) ?_
              simp only [Act.put, List.setIfInBounds_toArray, List.set_cons_zero, List.set_cons_succ]
              refine takeAt 21 (some 64) ?vf21 ⟨_, rfl, rfl, rfl, ?hyf21⟩ (by kernel_rfl) (by kernel_rfl) (by kernel_rfl) (fun _ _ _ h => h) (by assumption) ?_
              case hyf21 => (intro w0 hSw; (try dsimp only at hSw); go_simp; try (with_reducible rfl))
              simp only [Act.put, List.setIfInBounds_toArray, List.set_cons_zero, List.set_cons_succ]
              refine takeAt 22 (some 65) ?vf22 ⟨_, rfl, rfl, rfl, ?hyf22⟩ (by kernel_rfl) (by kernel_rfl) (by kernel_rfl) (fun _ _ _ h => h) (by assumption) ?_
              case hyf22 => (intro w0 hSw; (try dsimp only at hSw); go_simp; try (with_reducible rfl))
              simp only [Act.put, List.setIfInBounds_toArray, List.set_cons_zero, List.set_cons_succ]
              refine takeAt 23 (some 66) ?vf23 ⟨_, rfl, rfl, rfl, ?hyf23⟩ (by kernel_rfl) (by kernel_rfl) (by kernel_rfl) (fun _ _ _ h => h) (by assumption) ?_
              case hyf23 => (intro w0 hSw; (try dsimp only at hSw); go_simp; try (with_reducible rfl))
              simp only [Act.put, List.setIfInBounds_toArray, List.set_cons_zero, List.set_cons_succ]
              refine wpAnyH_ready (rs := [24]) (by kernel_rfl) (by simp) ?_
              refine AllReadyH.cons rfl (fun K0 hK0 => ?_) AllReadyH.nil
              go_simp
              refine (known_any _).mono ?_
              rintro e n4 ⟨rfl, kn4⟩
              go_wp2_with fail
              refine hK0.out _ _ ?hSf24 (fun hHeld1 => ?_)
              case hSf24 => exact unhide SK4 _ (keep_call hHeld kn4)
              clear hK0 K0 hHeld
              have hHeld := hHeld1
              clear hHeld1
              try simp only [Act.put, List.setIfInBounds_toArray, List.set_cons_zero, List.set_cons_succ]
              refine takeAt 25 (some 68) ?vf25 ⟨_, rfl, rfl, rfl, ?hyf25⟩ (by kernel_rfl) (by kernel_rfl) (by kernel_rfl) (fun _ _ _ h => h) (by assumption) ?_
              case hyf25 => (intro w0 hSw; (try dsimp only at hSw); go_simp; try (with_reducible rfl))
              simp only [Act.put, List.setIfInBounds_toArray, List.set_cons_zero, List.set_cons_succ]
              refine takeAt 26 (some 4) ?vf26 ⟨_, rfl, rfl, rfl, ?hyf26⟩ (by kernel_rfl) (by kernel_rfl) (by kernel_rfl) (fun _ _ _ h => h) (by assumption) ?_
              case hyf26 => (intro w0 hSw; (try dsimp only at hSw); go_simp; try (with_reducible rfl))
              simp only [Act.put, List.setIfInBounds_toArray, List.set_cons_zero, List.set_cons_succ]
              refine wpAnyH_done (by kernel_rfl) ?_ _
              refine NoPanic.normal ?_
              go_wp2_with fail
              go_ret
              refine ⟨rfl, ?_⟩
              have b := unhide B0
              rw [← unhide HB] at b
              exact bstep b (bstep (unhide B4) hHeld.1)
end Go.Proofs.Ythccmlkcdinfdac

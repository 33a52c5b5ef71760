/- ValLists' walk: a beginning stands ahead. -/
import Derived.Test.YthccmlkcdinfdacVApp
import Derived.Test.YthccmlkcdinfdacVKnown
import Derived.Test.YthccmlkcdinfdacRegMan
import Derived.Test.YthccmlkcdinfdacVMay
import Derived.Test.YthccmlkcdinfdacVCmp
import Derived.Deep.CutBlock
import Derived.Deep.DeepCutAuto
namespace Go.Proofs.Ythccmlkcdinfdac
open Go.RowKit
attribute [local go_sem ↓] Go.wp_at_zero Go.wp_at_succ

set_option maxHeartbeats 4000000 in
theorem valLists_walk (a : Option Addr) (len cap : Nat) (kid : Nat → VT) (x : VT) (w : World) (hin : (VT.mk 4 false 0 0 ⟨#[]⟩ a len cap kid).In w) (hin' : x.In w) :
    Calls Try.prog 6 #[.slice a len cap, x.val] w fun e w' => e = .returned (.bool true) ∧ Below w.heap.size w w' := by
  cases x with
  | none => exact absurd hin' (by simp [VT.In])
  | mk k b m s t a' len' cap' kid' =>
    show Calls Try.prog 6 #[.slice a len cap, .agg #[.int .i64 k, .bool b, .int .i64 m, .int .i64 s, .string t, .slice a' len' cap']] w _
    have hlm : len ≤ maxLen := Nat.le_trans hin.1.2.2.2.2.1 hin.1.2.2.2.2.2
    unfold maxLen at hlm
    by_cases h8 : len < 8
    case neg =>
      go_enter Try.func6, Try.ntmps6
      go_wp2_with fail
      go_ret
      exact ⟨rfl, below1 _ _⟩
    have b2 := below2 w (Obj.cells #[.int .i64 k, .bool b, .int .i64 m, .int .i64 s, .string t, .slice a' len' cap'] 26) (Obj.cells #[.int .i64 4, .bool false, .int .i64 0, .int .i64 0, .string ⟨#[]⟩, .slice a len cap] 26)
    have HIN := hide (hin.below b2)
    have HX := hide (hin'.below b2)
    clear hin hin'
    go_enter Try.func6, Try.ntmps6
    go_upto_region 4 with fail
    have x0 : ((w.alloc (Obj.cells #[.int .i64 k, .bool b, .int .i64 m, .int .i64 s, .string t, .slice a' len' cap'] 26)).alloc (Obj.cells #[.int .i64 4, .bool false, .int .i64 0, .int .i64 0, .string ⟨#[]⟩, .slice a len cap] 26)).cell? ⟨w.heap.size, 0, none⟩ = some (.int .i64 k) := by go_simp
    have x1 : ((w.alloc (Obj.cells #[.int .i64 k, .bool b, .int .i64 m, .int .i64 s, .string t, .slice a' len' cap'] 26)).alloc (Obj.cells #[.int .i64 4, .bool false, .int .i64 0, .int .i64 0, .string ⟨#[]⟩, .slice a len cap] 26)).cell? ⟨w.heap.size, 1, none⟩ = some (.bool b) := by go_simp
    have x2 : ((w.alloc (Obj.cells #[.int .i64 k, .bool b, .int .i64 m, .int .i64 s, .string t, .slice a' len' cap'] 26)).alloc (Obj.cells #[.int .i64 4, .bool false, .int .i64 0, .int .i64 0, .string ⟨#[]⟩, .slice a len cap] 26)).cell? ⟨w.heap.size, 2, none⟩ = some (.int .i64 m) := by go_simp
    have x3 : ((w.alloc (Obj.cells #[.int .i64 k, .bool b, .int .i64 m, .int .i64 s, .string t, .slice a' len' cap'] 26)).alloc (Obj.cells #[.int .i64 4, .bool false, .int .i64 0, .int .i64 0, .string ⟨#[]⟩, .slice a len cap] 26)).cell? ⟨w.heap.size, 3, none⟩ = some (.int .i64 s) := by go_simp
    have x4 : ((w.alloc (Obj.cells #[.int .i64 k, .bool b, .int .i64 m, .int .i64 s, .string t, .slice a' len' cap'] 26)).alloc (Obj.cells #[.int .i64 4, .bool false, .int .i64 0, .int .i64 0, .string ⟨#[]⟩, .slice a len cap] 26)).cell? ⟨w.heap.size, 4, none⟩ = some (.string t) := by go_simp
    have x5 : ((w.alloc (Obj.cells #[.int .i64 k, .bool b, .int .i64 m, .int .i64 s, .string t, .slice a' len' cap'] 26)).alloc (Obj.cells #[.int .i64 4, .bool false, .int .i64 0, .int .i64 0, .string ⟨#[]⟩, .slice a len cap] 26)).cell? ⟨w.heap.size, 5, none⟩ = some (.slice a' len' cap') := by go_simp
    have sa : VT.Six ((w.alloc (Obj.cells #[.int .i64 k, .bool b, .int .i64 m, .int .i64 s, .string t, .slice a' len' cap'] 26)).alloc (Obj.cells #[.int .i64 4, .bool false, .int .i64 0, .int .i64 0, .string ⟨#[]⟩, .slice a len cap] 26)) (w.heap.size + 1) 0 4 false 0 0 ⟨#[]⟩ a len cap := ⟨by simp, by go_simp, by go_simp, by go_simp, by go_simp, by go_simp, by go_simp⟩
    have z1 : w.heap.size + 1 < ((w.alloc (Obj.cells #[.int .i64 k, .bool b, .int .i64 m, .int .i64 s, .string t, .slice a' len' cap'] 26)).alloc (Obj.cells #[.int .i64 4, .bool false, .int .i64 0, .int .i64 0, .string ⟨#[]⟩, .slice a len cap] 26)).heap.size := by simp
    generalize ((w.alloc (Obj.cells #[.int .i64 k, .bool b, .int .i64 m, .int .i64 s, .string t, .slice a' len' cap'] 26)).alloc (Obj.cells #[.int .i64 4, .bool false, .int .i64 0, .int .i64 0, .string ⟨#[]⟩, .slice a len cap] 26)) = V at *
    have B0 := hide b2
    clear b2
    generalize hB : w.heap.size = B at *
    have HB := hide hB
    clear hB
    have SK : Hid (∀ w', Below V.heap.size V w' → (Below V.heap.size V w' ∧ w'.cell? ⟨B, 0, none⟩ = some (.int .i64 k) ∧ w'.cell? ⟨B, 1, none⟩ = some (.bool b) ∧ w'.cell? ⟨B, 2, none⟩ = some (.int .i64 m) ∧ w'.cell? ⟨B, 3, none⟩ = some (.int .i64 s) ∧ w'.cell? ⟨B, 4, none⟩ = some (.string t) ∧ w'.cell? ⟨B, 5, none⟩ = some (.slice a' len' cap'))) := by
      intro w' kk
      exact ⟨kk, kcell kk (by omega) x0, kcell kk (by omega) x1, kcell kk (by omega) x2, kcell kk (by omega) x3, kcell kk (by omega) x4, kcell kk (by omega) x5⟩
    go_cut [6] (fun f wx => ∃ (b6 g c6 : Nat), f = .pointer (some ⟨b6, 0, none⟩) ∧ VT.Six wx b6 0 4 false 0 0 ⟨#[]⟩ (some ⟨g, 0, none⟩) (len + 1) c6 ∧ wx.ownsRow V.heap.size 26 6 (.slice (some ⟨g, 0, none⟩) (len + 1) c6) (len + 1) (cellsOf kid len ++ cellsOf (fun _ => (VT.mk k b m s t a' len' cap' kid')) 1) ∧ Below V.heap.size V wx)
    case first =>
      refine wp_region_noPanic ?_
      refine wp_region_held_drew (S := fun w' => Below V.heap.size V w' ∧ w'.cell? ⟨B, 0, none⟩ = some (.int .i64 k) ∧ w'.cell? ⟨B, 1, none⟩ = some (.bool b) ∧ w'.cell? ⟨B, 2, none⟩ = some (.int .i64 m) ∧ w'.cell? ⟨B, 3, none⟩ = some (.int .i64 s) ∧ w'.cell? ⟨B, 4, none⟩ = some (.string t) ∧ w'.cell? ⟨B, 5, none⟩ = some (.slice a' len' cap')) (by kernel_rfl) ?hS0 (fun hHeld => ?_)
      case hS0 => exact unhide SK _ (Below.refl _ _).drew
      generalize V.drew = u0 at *
      refine takeAt 1 (some 13) ?v1 ⟨_, rfl, rfl, rfl, ?hy1⟩ (by kernel_rfl) (by kernel_rfl) (by kernel_rfl) (fun _ _ _ h => h) (by assumption) ?_
      case hy1 => (intro w0 hSw; (try dsimp only at hSw); go_simp; try (with_reducible rfl))
      simp only [Act.put, List.setIfInBounds_toArray, List.set_cons_zero, List.set_cons_succ]
      refine takeAt 3 (some 15) ?v3 ⟨_, rfl, rfl, rfl, ?hy3⟩ (by kernel_rfl) (by kernel_rfl) (by kernel_rfl) (fun _ _ _ h => h) (by assumption) ?_
      case hy3 => (intro w0 hSw; (try dsimp only at hSw); go_simp; try (with_reducible rfl))
      simp only [Act.put, List.setIfInBounds_toArray, List.set_cons_zero, List.set_cons_succ]
      refine wpAnyH_ready (rs := [0, 4, 7]) (by kernel_rfl) (by simp) ?_
      refine AllReadyH.cons rfl (fun K0 hK0 => ?_) (AllReadyH.cons rfl (fun K0 hK0 => ?_) (AllReadyH.cons rfl (fun K0 hK0 => ?_) AllReadyH.nil))
      · skip
        have z1 : V.heap.size ≤ u0.heap.size := hHeld.1.size
        go_simp
        refine hK0.out _ _ ?hS1 (fun hHeld1 => ?_)
        case hS1 => exact unhide SK _ (keep_alloc hHeld _)
        clear hK0 K0
        have j1 := below1 u0 (Obj.cells #[] 26)
        have e1 := World.ownsRow_made (base := V.heap.size) (e := 26) (size := 6) u0 #[] 0 z1 (Nat.zero_le _) rfl
        have vn1 : (Value.slice (some ⟨u0.heap.size, 0, none⟩) 0 0) ≠ .slice none 0 0 := fun e => by cases e
        generalize u0.alloc (Obj.cells #[] 26) = u1 at *
        clear j1 
        clear hHeld
        have hHeld := hHeld1
        clear hHeld1
        try simp only [Act.put, List.setIfInBounds_toArray, List.set_cons_zero, List.set_cons_succ]
        refine wpAnyH_ready (rs := [2, 4, 7]) (by kernel_rfl) (by simp) ?_
        refine AllReadyH.cons rfl (fun K0 hK0 => ?_) (AllReadyH.cons rfl (fun K0 hK0 => ?_) (AllReadyH.cons rfl (fun K0 hK0 => ?_) AllReadyH.nil))
        · skip
          have z2 : V.heap.size ≤ u1.heap.size := hHeld.1.size
          obtain ⟨v2, u2, hrun, own2, hg, vn2, hob⟩ := app_any V.heap.size u1 (Value.slice (some ⟨u0.heap.size, 0, none⟩) 0 0) 0 [] e1 ((unhide HIN).below hHeld.1) (by omega) (by omega) z2 vn1
          rw [Nat.zero_add, List.nil_append] at own2
          refine wp_app (.tmp 12) (.tmp 13) (some 14) rfl rfl rfl rfl hrun ?_
          simp only [Act.put, List.setIfInBounds_toArray, List.set_cons_zero, List.set_cons_succ]
          refine hK0.out _ _ ?hS2 (fun hHeld1 => ?_)
          case hS2 => exact unhide SK _ (hHeld.1.grown hg z2 (fun k e => (e1.lt k e).1))
          clear hK0 K0
          clear hrun hg hob e1
          clear hHeld
          have hHeld := hHeld1
          clear hHeld1
          refine wpAnyH_ready (rs := [4, 7]) (by kernel_rfl) (by simp) ?_
          refine AllReadyH.cons rfl (fun K0 hK0 => ?_) (AllReadyH.cons rfl (fun K0 hK0 => ?_) AllReadyH.nil)
          · skip
            have z3 : V.heap.size ≤ u2.heap.size := hHeld.1.size
            go_simp
            refine hK0.out _ _ ?hS3 (fun hHeld1 => ?_)
            case hS3 => exact unhide SK _ (keep_alloc hHeld _)
            clear hK0 K0
            have j3 := below1 u2 (Obj.cells #[.int .i64 k, .bool b, .int .i64 m, .int .i64 s, .string t, .slice a' len' cap'] 26)
            have e3 := World.ownsRow.alloc own2 (Obj.cells #[.int .i64 k, .bool b, .int .i64 m, .int .i64 s, .string t, .slice a' len' cap'] 26)
            have s3 : VT.Six (u2.alloc (Obj.cells #[.int .i64 k, .bool b, .int .i64 m, .int .i64 s, .string t, .slice a' len' cap'] 26)) u2.heap.size 0 k b m s t a' len' cap' := ⟨by simp, by go_simp, by go_simp, by go_simp, by go_simp, by go_simp, by go_simp⟩
            have ns3 := ne_new own2
            generalize u2.alloc (Obj.cells #[.int .i64 k, .bool b, .int .i64 m, .int .i64 s, .string t, .slice a' len' cap'] 26) = u3 at *
            clear j3 own2
            clear hHeld
            have hHeld := hHeld1
            clear hHeld1
            try simp only [Act.put, List.setIfInBounds_toArray, List.set_cons_zero, List.set_cons_succ]
            refine wpAnyH_ready (rs := [5, 7]) (by kernel_rfl) (by simp) ?_
            refine AllReadyH.cons rfl (fun K0 hK0 => ?_) (AllReadyH.cons rfl (fun K0 hK0 => ?_) AllReadyH.nil)
            · skip
              have z4 : V.heap.size ≤ u3.heap.size := hHeld.1.size
              obtain ⟨v4, u4, hrun, own4, hg, vn4, hob⟩ := app_any V.heap.size u3 v2 len (cellsOf kid len) e3 (one_in ((unhide HX).below hHeld.1) (six_cells s3)) (by omega) (by omega) z4 vn2
              refine wp_app (.tmp 14) (.tmp 16) (some 17) rfl rfl rfl rfl hrun ?_
              simp only [Act.put, List.setIfInBounds_toArray, List.set_cons_zero, List.set_cons_succ]
              refine hK0.out _ _ ?hS4 (fun hHeld1 => ?_)
              case hS4 => exact unhide SK _ (hHeld.1.grown hg z4 (fun k e => (e3.lt k e).1))
              clear hK0 K0
              obtain ⟨g4, c4, hvv, -, -⟩ := own4.form (by omega)
              subst hvv
              clear hrun hg hob e3 s3
              clear hHeld
              have hHeld := hHeld1
              clear hHeld1
              refine takeAt 6 (some 18) ?v6x4 ⟨_, rfl, rfl, rfl, ?hy6x4⟩ (by kernel_rfl) (by kernel_rfl) (by kernel_rfl) (fun _ _ _ h => h) (by assumption) ?_
              case hy6x4 => (intro w0 hSw; (try dsimp only at hSw); go_simp; try (with_reducible rfl))
              simp only [Act.put, List.setIfInBounds_toArray, List.set_cons_zero, List.set_cons_succ]
              refine wpAnyH_ready (rs := [7]) (by kernel_rfl) (by simp) ?_
              refine AllReadyH.cons rfl (fun K0 hK0 => ?_) AllReadyH.nil
              · skip
                have z5 : V.heap.size ≤ u4.heap.size := hHeld.1.size
                go_simp
                refine hK0.out _ _ ?hS5 (fun hHeld1 => ?_)
                case hS5 => exact unhide SK _ (keep_alloc hHeld _)
                clear hK0 K0
                have j5 := below1 u4 (Obj.cells #[.int .i64 0, .bool false, .int .i64 0, .int .i64 0, .string ⟨#[]⟩, .slice none 0 0] 26)
                have e5 := World.ownsRow.alloc own4 (Obj.cells #[.int .i64 0, .bool false, .int .i64 0, .int .i64 0, .string ⟨#[]⟩, .slice none 0 0] 26)
                have o5 := Own.new u4 26
                have zb : V.heap.size ≤ u4.heap.size := z5
                have no5 := ne_new own4
                generalize u4.alloc (Obj.cells #[.int .i64 0, .bool false, .int .i64 0, .int .i64 0, .string ⟨#[]⟩, .slice none 0 0] 26) = u5 at *
                clear j5 own4
                clear hHeld
                have hHeld := hHeld1
                clear hHeld1
                try simp only [Act.put, List.setIfInBounds_toArray, List.set_cons_zero, List.set_cons_succ]
                refine wpAnyH_ready (rs := [8]) (by kernel_rfl) (by simp) ?_
                refine AllReadyH.cons rfl (fun K0 hK0 => ?_) AllReadyH.nil
                · skip
                  have z6 : V.heap.size ≤ u5.heap.size := hHeld.1.size
                  obtain ⟨⟨-, e0, e1, e2, e3, e4, e5⟩, f0, f1, f2, f3, f4, f5⟩ := id o5
                  simp only [Nat.zero_add] at e0 e1 e2 e3 e4 e5
                  go_simp
                  clear e0 e1 e2 e3 e4 e5 f0 f1 f2 f3 f4 f5
                  refine hK0.out _ _ ?hS6 (fun hHeld1 => ?_)
                  case hS6 => exact unhide SK _ (set6 hHeld.1 zb _ _ _ _ _ _)
                  clear hK0 K0
                  have s6 := Own.put o5 4 false 0 0 ⟨#[]⟩ (some ⟨g4, 0, none⟩) (len + 1) c4
                  have own6 := e5.kept (put_grown u5 (u4.heap.size) (.int .i64 4) (.bool false) (.int .i64 0) (.int .i64 0) (.string ⟨#[]⟩) (.slice (some ⟨g4, 0, none⟩) (len + 1) c4)) (Or.inr no5)
                  generalize ((((((u5.setCell ⟨u4.heap.size, 0, none⟩ (.int .i64 4)).setCell ⟨u4.heap.size, 1, none⟩ (.bool false)).setCell ⟨u4.heap.size, 2, none⟩ (.int .i64 0)).setCell ⟨u4.heap.size, 3, none⟩ (.int .i64 0)).setCell ⟨u4.heap.size, 4, none⟩ (.string ⟨#[]⟩)).setCell ⟨u4.heap.size, 5, none⟩ (.slice (some ⟨g4, 0, none⟩) (len + 1) c4)) = u6 at *
                  clear hHeld
                  have hHeld := hHeld1
                  clear hHeld1
                  try simp only [Act.put, List.setIfInBounds_toArray, List.set_cons_zero, List.set_cons_succ]
                  refine wpAnyH_done (by kernel_rfl) ?_ _
                  refine NoPanic.normal ?_
                  go_wp2_with fail
                  go_meet
                  exact ⟨_, _, _, rfl, s6, own6, hHeld.1⟩
            · skip
              have z7 : V.heap.size ≤ u3.heap.size := hHeld.1.size
              go_simp
              refine hK0.out _ _ ?hS7 (fun hHeld1 => ?_)
              case hS7 => exact unhide SK _ (keep_alloc hHeld _)
              clear hK0 K0
              have j7 := below1 u3 (Obj.cells #[.int .i64 0, .bool false, .int .i64 0, .int .i64 0, .string ⟨#[]⟩, .slice none 0 0] 26)
              have e7 := World.ownsRow.alloc e3 (Obj.cells #[.int .i64 0, .bool false, .int .i64 0, .int .i64 0, .string ⟨#[]⟩, .slice none 0 0] 26)
              have s7 := VT.Six.below s3 j7
              have o7 := Own.new u3 26
              have zb : V.heap.size ≤ u3.heap.size := z7
              have no7 := ne_new e3
              generalize u3.alloc (Obj.cells #[.int .i64 0, .bool false, .int .i64 0, .int .i64 0, .string ⟨#[]⟩, .slice none 0 0] 26) = u7 at *
              clear j7 e3 s3
              clear hHeld
              have hHeld := hHeld1
              clear hHeld1
              try simp only [Act.put, List.setIfInBounds_toArray, List.set_cons_zero, List.set_cons_succ]
              refine wpAnyH_ready (rs := [5]) (by kernel_rfl) (by simp) ?_
              refine AllReadyH.cons rfl (fun K0 hK0 => ?_) AllReadyH.nil
              · skip
                have z8 : V.heap.size ≤ u7.heap.size := hHeld.1.size
                obtain ⟨v8, u8, hrun, own8, hg, vn8, hob⟩ := app_any V.heap.size u7 v2 len (cellsOf kid len) e7 (one_in ((unhide HX).below hHeld.1) (six_cells s7)) (by omega) (by omega) z8 vn2
                refine wp_app (.tmp 14) (.tmp 16) (some 17) rfl rfl rfl rfl hrun ?_
                simp only [Act.put, List.setIfInBounds_toArray, List.set_cons_zero, List.set_cons_succ]
                refine hK0.out _ _ ?hS8 (fun hHeld1 => ?_)
                case hS8 => exact unhide SK _ (hHeld.1.grown hg z8 (fun k e => (e7.lt k e).1))
                clear hK0 K0
                have o8 := grown_own o7 hg (fun e => no7 e.symm)
                have no8 := ne_app hob o7.1.1 no7
                obtain ⟨g8, c8, hvv, -, -⟩ := own8.form (by omega)
                subst hvv
                clear hrun hg hob e7 s7 o7
                clear hHeld
                have hHeld := hHeld1
                clear hHeld1
                refine takeAt 6 (some 18) ?v6x8 ⟨_, rfl, rfl, rfl, ?hy6x8⟩ (by kernel_rfl) (by kernel_rfl) (by kernel_rfl) (fun _ _ _ h => h) (by assumption) ?_
                case hy6x8 => (intro w0 hSw; (try dsimp only at hSw); go_simp; try (with_reducible rfl))
                simp only [Act.put, List.setIfInBounds_toArray, List.set_cons_zero, List.set_cons_succ]
                refine wpAnyH_ready (rs := [8]) (by kernel_rfl) (by simp) ?_
                refine AllReadyH.cons rfl (fun K0 hK0 => ?_) AllReadyH.nil
                · skip
                  have z9 : V.heap.size ≤ u8.heap.size := hHeld.1.size
                  obtain ⟨⟨-, e0, e1, e2, e3, e4, e5⟩, f0, f1, f2, f3, f4, f5⟩ := id o8
                  simp only [Nat.zero_add] at e0 e1 e2 e3 e4 e5
                  go_simp
                  clear e0 e1 e2 e3 e4 e5 f0 f1 f2 f3 f4 f5
                  refine hK0.out _ _ ?hS9 (fun hHeld1 => ?_)
                  case hS9 => exact unhide SK _ (set6 hHeld.1 zb _ _ _ _ _ _)
                  clear hK0 K0
                  have s9 := Own.put o8 4 false 0 0 ⟨#[]⟩ (some ⟨g8, 0, none⟩) (len + 1) c8
                  have own9 := own8.kept (put_grown u8 (u3.heap.size) (.int .i64 4) (.bool false) (.int .i64 0) (.int .i64 0) (.string ⟨#[]⟩) (.slice (some ⟨g8, 0, none⟩) (len + 1) c8)) (Or.inr no8)
                  generalize ((((((u8.setCell ⟨u3.heap.size, 0, none⟩ (.int .i64 4)).setCell ⟨u3.heap.size, 1, none⟩ (.bool false)).setCell ⟨u3.heap.size, 2, none⟩ (.int .i64 0)).setCell ⟨u3.heap.size, 3, none⟩ (.int .i64 0)).setCell ⟨u3.heap.size, 4, none⟩ (.string ⟨#[]⟩)).setCell ⟨u3.heap.size, 5, none⟩ (.slice (some ⟨g8, 0, none⟩) (len + 1) c8)) = u9 at *
                  clear hHeld
                  have hHeld := hHeld1
                  clear hHeld1
                  try simp only [Act.put, List.setIfInBounds_toArray, List.set_cons_zero, List.set_cons_succ]
                  refine wpAnyH_done (by kernel_rfl) ?_ _
                  refine NoPanic.normal ?_
                  go_wp2_with fail
                  go_meet
                  exact ⟨_, _, _, rfl, s9, own9, hHeld.1⟩
          · skip
            have z10 : V.heap.size ≤ u2.heap.size := hHeld.1.size
            go_simp
            refine hK0.out _ _ ?hS10 (fun hHeld1 => ?_)
            case hS10 => exact unhide SK _ (keep_alloc hHeld _)
            clear hK0 K0
            have j10 := below1 u2 (Obj.cells #[.int .i64 0, .bool false, .int .i64 0, .int .i64 0, .string ⟨#[]⟩, .slice none 0 0] 26)
            have e10 := World.ownsRow.alloc own2 (Obj.cells #[.int .i64 0, .bool false, .int .i64 0, .int .i64 0, .string ⟨#[]⟩, .slice none 0 0] 26)
            have o10 := Own.new u2 26
            have zb : V.heap.size ≤ u2.heap.size := z10
            have no10 := ne_new own2
            generalize u2.alloc (Obj.cells #[.int .i64 0, .bool false, .int .i64 0, .int .i64 0, .string ⟨#[]⟩, .slice none 0 0] 26) = u10 at *
            clear j10 own2
            clear hHeld
            have hHeld := hHeld1
            clear hHeld1
            try simp only [Act.put, List.setIfInBounds_toArray, List.set_cons_zero, List.set_cons_succ]
            refine wpAnyH_ready (rs := [4]) (by kernel_rfl) (by simp) ?_
            refine AllReadyH.cons rfl (fun K0 hK0 => ?_) AllReadyH.nil
            · skip
              have z11 : V.heap.size ≤ u10.heap.size := hHeld.1.size
              go_simp
              refine hK0.out _ _ ?hS11 (fun hHeld1 => ?_)
              case hS11 => exact unhide SK _ (keep_alloc hHeld _)
              clear hK0 K0
              have j11 := below1 u10 (Obj.cells #[.int .i64 k, .bool b, .int .i64 m, .int .i64 s, .string t, .slice a' len' cap'] 26)
              have e11 := World.ownsRow.alloc e10 (Obj.cells #[.int .i64 k, .bool b, .int .i64 m, .int .i64 s, .string t, .slice a' len' cap'] 26)
              have o11 := Own.below o10 j11
              have s11 : VT.Six (u10.alloc (Obj.cells #[.int .i64 k, .bool b, .int .i64 m, .int .i64 s, .string t, .slice a' len' cap'] 26)) u10.heap.size 0 k b m s t a' len' cap' := ⟨by simp, by go_simp, by go_simp, by go_simp, by go_simp, by go_simp, by go_simp⟩
              have ns11 := ne_new e10
              generalize u10.alloc (Obj.cells #[.int .i64 k, .bool b, .int .i64 m, .int .i64 s, .string t, .slice a' len' cap'] 26) = u11 at *
              clear j11 e10 o10
              clear hHeld
              have hHeld := hHeld1
              clear hHeld1
              try simp only [Act.put, List.setIfInBounds_toArray, List.set_cons_zero, List.set_cons_succ]
              refine wpAnyH_ready (rs := [5]) (by kernel_rfl) (by simp) ?_
              refine AllReadyH.cons rfl (fun K0 hK0 => ?_) AllReadyH.nil
              · skip
                have z12 : V.heap.size ≤ u11.heap.size := hHeld.1.size
                obtain ⟨v12, u12, hrun, own12, hg, vn12, hob⟩ := app_any V.heap.size u11 v2 len (cellsOf kid len) e11 (one_in ((unhide HX).below hHeld.1) (six_cells s11)) (by omega) (by omega) z12 vn2
                refine wp_app (.tmp 14) (.tmp 16) (some 17) rfl rfl rfl rfl hrun ?_
                simp only [Act.put, List.setIfInBounds_toArray, List.set_cons_zero, List.set_cons_succ]
                refine hK0.out _ _ ?hS12 (fun hHeld1 => ?_)
                case hS12 => exact unhide SK _ (hHeld.1.grown hg z12 (fun k e => (e11.lt k e).1))
                clear hK0 K0
                have o12 := grown_own o11 hg (fun e => no10 e.symm)
                have no12 := ne_app hob o11.1.1 no10
                obtain ⟨g12, c12, hvv, -, -⟩ := own12.form (by omega)
                subst hvv
                clear hrun hg hob e11 s11 o11
                clear hHeld
                have hHeld := hHeld1
                clear hHeld1
                refine takeAt 6 (some 18) ?v6x12 ⟨_, rfl, rfl, rfl, ?hy6x12⟩ (by kernel_rfl) (by kernel_rfl) (by kernel_rfl) (fun _ _ _ h => h) (by assumption) ?_
                case hy6x12 => (intro w0 hSw; (try dsimp only at hSw); go_simp; try (with_reducible rfl))
                simp only [Act.put, List.setIfInBounds_toArray, List.set_cons_zero, List.set_cons_succ]
                refine wpAnyH_ready (rs := [8]) (by kernel_rfl) (by simp) ?_
                refine AllReadyH.cons rfl (fun K0 hK0 => ?_) AllReadyH.nil
                · skip
                  have z13 : V.heap.size ≤ u12.heap.size := hHeld.1.size
                  obtain ⟨⟨-, e0, e1, e2, e3, e4, e5⟩, f0, f1, f2, f3, f4, f5⟩ := id o12
                  simp only [Nat.zero_add] at e0 e1 e2 e3 e4 e5
                  go_simp
                  clear e0 e1 e2 e3 e4 e5 f0 f1 f2 f3 f4 f5
                  refine hK0.out _ _ ?hS13 (fun hHeld1 => ?_)
                  case hS13 => exact unhide SK _ (set6 hHeld.1 zb _ _ _ _ _ _)
                  clear hK0 K0
                  have s13 := Own.put o12 4 false 0 0 ⟨#[]⟩ (some ⟨g12, 0, none⟩) (len + 1) c12
                  have own13 := own12.kept (put_grown u12 (u2.heap.size) (.int .i64 4) (.bool false) (.int .i64 0) (.int .i64 0) (.string ⟨#[]⟩) (.slice (some ⟨g12, 0, none⟩) (len + 1) c12)) (Or.inr no12)
                  generalize ((((((u12.setCell ⟨u2.heap.size, 0, none⟩ (.int .i64 4)).setCell ⟨u2.heap.size, 1, none⟩ (.bool false)).setCell ⟨u2.heap.size, 2, none⟩ (.int .i64 0)).setCell ⟨u2.heap.size, 3, none⟩ (.int .i64 0)).setCell ⟨u2.heap.size, 4, none⟩ (.string ⟨#[]⟩)).setCell ⟨u2.heap.size, 5, none⟩ (.slice (some ⟨g12, 0, none⟩) (len + 1) c12)) = u13 at *
                  clear hHeld
                  have hHeld := hHeld1
                  clear hHeld1
                  try simp only [Act.put, List.setIfInBounds_toArray, List.set_cons_zero, List.set_cons_succ]
                  refine wpAnyH_done (by kernel_rfl) ?_ _
                  refine NoPanic.normal ?_
                  go_wp2_with fail
                  go_meet
                  exact ⟨_, _, _, rfl, s13, own13, hHeld.1⟩
        · skip
          have z14 : V.heap.size ≤ u1.heap.size := hHeld.1.size
          go_simp
          refine hK0.out _ _ ?hS14 (fun hHeld1 => ?_)
          case hS14 => exact unhide SK _ (keep_alloc hHeld _)
          clear hK0 K0
          have j14 := below1 u1 (Obj.cells #[.int .i64 k, .bool b, .int .i64 m, .int .i64 s, .string t, .slice a' len' cap'] 26)
          have e14 := World.ownsRow.alloc e1 (Obj.cells #[.int .i64 k, .bool b, .int .i64 m, .int .i64 s, .string t, .slice a' len' cap'] 26)
          have s14 : VT.Six (u1.alloc (Obj.cells #[.int .i64 k, .bool b, .int .i64 m, .int .i64 s, .string t, .slice a' len' cap'] 26)) u1.heap.size 0 k b m s t a' len' cap' := ⟨by simp, by go_simp, by go_simp, by go_simp, by go_simp, by go_simp, by go_simp⟩
          have ns14 := ne_new e1
          generalize u1.alloc (Obj.cells #[.int .i64 k, .bool b, .int .i64 m, .int .i64 s, .string t, .slice a' len' cap'] 26) = u14 at *
          clear j14 e1
          clear hHeld
          have hHeld := hHeld1
          clear hHeld1
          try simp only [Act.put, List.setIfInBounds_toArray, List.set_cons_zero, List.set_cons_succ]
          refine wpAnyH_ready (rs := [2, 7]) (by kernel_rfl) (by simp) ?_
          refine AllReadyH.cons rfl (fun K0 hK0 => ?_) (AllReadyH.cons rfl (fun K0 hK0 => ?_) AllReadyH.nil)
          · skip
            have z15 : V.heap.size ≤ u14.heap.size := hHeld.1.size
            obtain ⟨v15, u15, hrun, own15, hg, vn15, hob⟩ := app_any V.heap.size u14 (Value.slice (some ⟨u0.heap.size, 0, none⟩) 0 0) 0 [] e14 ((unhide HIN).below hHeld.1) (by omega) (by omega) z15 vn1
            rw [Nat.zero_add, List.nil_append] at own15
            refine wp_app (.tmp 12) (.tmp 13) (some 14) rfl rfl rfl rfl hrun ?_
            simp only [Act.put, List.setIfInBounds_toArray, List.set_cons_zero, List.set_cons_succ]
            refine hK0.out _ _ ?hS15 (fun hHeld1 => ?_)
            case hS15 => exact unhide SK _ (hHeld.1.grown hg z15 (fun k e => (e14.lt k e).1))
            clear hK0 K0
            have s15 := grown_six s14 hg (fun e => ns14 e.symm)
            have ns15 := ne_app hob s14.1 ns14
            clear hrun hg hob e14 s14
            clear hHeld
            have hHeld := hHeld1
            clear hHeld1
            refine wpAnyH_ready (rs := [5, 7]) (by kernel_rfl) (by simp) ?_
            refine AllReadyH.cons rfl (fun K0 hK0 => ?_) (AllReadyH.cons rfl (fun K0 hK0 => ?_) AllReadyH.nil)
            · skip
              have z16 : V.heap.size ≤ u15.heap.size := hHeld.1.size
              obtain ⟨v16, u16, hrun, own16, hg, vn16, hob⟩ := app_any V.heap.size u15 v15 len (cellsOf kid len) own15 (one_in ((unhide HX).below hHeld.1) (six_cells s15)) (by omega) (by omega) z16 vn15
              refine wp_app (.tmp 14) (.tmp 16) (some 17) rfl rfl rfl rfl hrun ?_
              simp only [Act.put, List.setIfInBounds_toArray, List.set_cons_zero, List.set_cons_succ]
              refine hK0.out _ _ ?hS16 (fun hHeld1 => ?_)
              case hS16 => exact unhide SK _ (hHeld.1.grown hg z16 (fun k e => (own15.lt k e).1))
              clear hK0 K0
              obtain ⟨g16, c16, hvv, -, -⟩ := own16.form (by omega)
              subst hvv
              clear hrun hg hob own15 s15
              clear hHeld
              have hHeld := hHeld1
              clear hHeld1
              refine takeAt 6 (some 18) ?v6x16 ⟨_, rfl, rfl, rfl, ?hy6x16⟩ (by kernel_rfl) (by kernel_rfl) (by kernel_rfl) (fun _ _ _ h => h) (by assumption) ?_
              case hy6x16 => (intro w0 hSw; (try dsimp only at hSw); go_simp; try (with_reducible rfl))
              simp only [Act.put, List.setIfInBounds_toArray, List.set_cons_zero, List.set_cons_succ]
              refine wpAnyH_ready (rs := [7]) (by kernel_rfl) (by simp) ?_
              refine AllReadyH.cons rfl (fun K0 hK0 => ?_) AllReadyH.nil
              · skip
                have z17 : V.heap.size ≤ u16.heap.size := hHeld.1.size
                go_simp
                refine hK0.out _ _ ?hS17 (fun hHeld1 => ?_)
                case hS17 => exact unhide SK _ (keep_alloc hHeld _)
                clear hK0 K0
                have j17 := below1 u16 (Obj.cells #[.int .i64 0, .bool false, .int .i64 0, .int .i64 0, .string ⟨#[]⟩, .slice none 0 0] 26)
                have e17 := World.ownsRow.alloc own16 (Obj.cells #[.int .i64 0, .bool false, .int .i64 0, .int .i64 0, .string ⟨#[]⟩, .slice none 0 0] 26)
                have o17 := Own.new u16 26
                have zb : V.heap.size ≤ u16.heap.size := z17
                have no17 := ne_new own16
                generalize u16.alloc (Obj.cells #[.int .i64 0, .bool false, .int .i64 0, .int .i64 0, .string ⟨#[]⟩, .slice none 0 0] 26) = u17 at *
                clear j17 own16
                clear hHeld
                have hHeld := hHeld1
                clear hHeld1
                try simp only [Act.put, List.setIfInBounds_toArray, List.set_cons_zero, List.set_cons_succ]
                refine wpAnyH_ready (rs := [8]) (by kernel_rfl) (by simp) ?_
                refine AllReadyH.cons rfl (fun K0 hK0 => ?_) AllReadyH.nil
                · skip
                  have z18 : V.heap.size ≤ u17.heap.size := hHeld.1.size
                  obtain ⟨⟨-, e0, e1, e2, e3, e4, e5⟩, f0, f1, f2, f3, f4, f5⟩ := id o17
                  simp only [Nat.zero_add] at e0 e1 e2 e3 e4 e5
                  go_simp
                  clear e0 e1 e2 e3 e4 e5 f0 f1 f2 f3 f4 f5
                  refine hK0.out _ _ ?hS18 (fun hHeld1 => ?_)
                  case hS18 => exact unhide SK _ (set6 hHeld.1 zb _ _ _ _ _ _)
                  clear hK0 K0
                  have s18 := Own.put o17 4 false 0 0 ⟨#[]⟩ (some ⟨g16, 0, none⟩) (len + 1) c16
                  have own18 := e17.kept (put_grown u17 (u16.heap.size) (.int .i64 4) (.bool false) (.int .i64 0) (.int .i64 0) (.string ⟨#[]⟩) (.slice (some ⟨g16, 0, none⟩) (len + 1) c16)) (Or.inr no17)
                  generalize ((((((u17.setCell ⟨u16.heap.size, 0, none⟩ (.int .i64 4)).setCell ⟨u16.heap.size, 1, none⟩ (.bool false)).setCell ⟨u16.heap.size, 2, none⟩ (.int .i64 0)).setCell ⟨u16.heap.size, 3, none⟩ (.int .i64 0)).setCell ⟨u16.heap.size, 4, none⟩ (.string ⟨#[]⟩)).setCell ⟨u16.heap.size, 5, none⟩ (.slice (some ⟨g16, 0, none⟩) (len + 1) c16)) = u18 at *
                  clear hHeld
                  have hHeld := hHeld1
                  clear hHeld1
                  try simp only [Act.put, List.setIfInBounds_toArray, List.set_cons_zero, List.set_cons_succ]
                  refine wpAnyH_done (by kernel_rfl) ?_ _
                  refine NoPanic.normal ?_
                  go_wp2_with fail
                  go_meet
                  exact ⟨_, _, _, rfl, s18, own18, hHeld.1⟩
            · skip
              have z19 : V.heap.size ≤ u15.heap.size := hHeld.1.size
              go_simp
              refine hK0.out _ _ ?hS19 (fun hHeld1 => ?_)
              case hS19 => exact unhide SK _ (keep_alloc hHeld _)
              clear hK0 K0
              have j19 := below1 u15 (Obj.cells #[.int .i64 0, .bool false, .int .i64 0, .int .i64 0, .string ⟨#[]⟩, .slice none 0 0] 26)
              have e19 := World.ownsRow.alloc own15 (Obj.cells #[.int .i64 0, .bool false, .int .i64 0, .int .i64 0, .string ⟨#[]⟩, .slice none 0 0] 26)
              have s19 := VT.Six.below s15 j19
              have o19 := Own.new u15 26
              have zb : V.heap.size ≤ u15.heap.size := z19
              have no19 := ne_new own15
              generalize u15.alloc (Obj.cells #[.int .i64 0, .bool false, .int .i64 0, .int .i64 0, .string ⟨#[]⟩, .slice none 0 0] 26) = u19 at *
              clear j19 own15 s15
              clear hHeld
              have hHeld := hHeld1
              clear hHeld1
              try simp only [Act.put, List.setIfInBounds_toArray, List.set_cons_zero, List.set_cons_succ]
              refine wpAnyH_ready (rs := [5]) (by kernel_rfl) (by simp) ?_
              refine AllReadyH.cons rfl (fun K0 hK0 => ?_) AllReadyH.nil
              · skip
                have z20 : V.heap.size ≤ u19.heap.size := hHeld.1.size
                obtain ⟨v20, u20, hrun, own20, hg, vn20, hob⟩ := app_any V.heap.size u19 v15 len (cellsOf kid len) e19 (one_in ((unhide HX).below hHeld.1) (six_cells s19)) (by omega) (by omega) z20 vn15
                refine wp_app (.tmp 14) (.tmp 16) (some 17) rfl rfl rfl rfl hrun ?_
                simp only [Act.put, List.setIfInBounds_toArray, List.set_cons_zero, List.set_cons_succ]
                refine hK0.out _ _ ?hS20 (fun hHeld1 => ?_)
                case hS20 => exact unhide SK _ (hHeld.1.grown hg z20 (fun k e => (e19.lt k e).1))
                clear hK0 K0
                have o20 := grown_own o19 hg (fun e => no19 e.symm)
                have no20 := ne_app hob o19.1.1 no19
                obtain ⟨g20, c20, hvv, -, -⟩ := own20.form (by omega)
                subst hvv
                clear hrun hg hob e19 s19 o19
                clear hHeld
                have hHeld := hHeld1
                clear hHeld1
                refine takeAt 6 (some 18) ?v6x20 ⟨_, rfl, rfl, rfl, ?hy6x20⟩ (by kernel_rfl) (by kernel_rfl) (by kernel_rfl) (fun _ _ _ h => h) (by assumption) ?_
                case hy6x20 => (intro w0 hSw; (try dsimp only at hSw); go_simp; try (with_reducible rfl))
                simp only [Act.put, List.setIfInBounds_toArray, List.set_cons_zero, List.set_cons_succ]
                refine wpAnyH_ready (rs := [8]) (by kernel_rfl) (by simp) ?_
                refine AllReadyH.cons rfl (fun K0 hK0 => ?_) AllReadyH.nil
                · skip
                  have z21 : V.heap.size ≤ u20.heap.size := hHeld.1.size
                  obtain ⟨⟨-, e0, e1, e2, e3, e4, e5⟩, f0, f1, f2, f3, f4, f5⟩ := id o20
                  simp only [Nat.zero_add] at e0 e1 e2 e3 e4 e5
                  go_simp
                  clear e0 e1 e2 e3 e4 e5 f0 f1 f2 f3 f4 f5
                  refine hK0.out _ _ ?hS21 (fun hHeld1 => ?_)
                  case hS21 => exact unhide SK _ (set6 hHeld.1 zb _ _ _ _ _ _)
                  clear hK0 K0
                  have s21 := Own.put o20 4 false 0 0 ⟨#[]⟩ (some ⟨g20, 0, none⟩) (len + 1) c20
                  have own21 := own20.kept (put_grown u20 (u15.heap.size) (.int .i64 4) (.bool false) (.int .i64 0) (.int .i64 0) (.string ⟨#[]⟩) (.slice (some ⟨g20, 0, none⟩) (len + 1) c20)) (Or.inr no20)
                  generalize ((((((u20.setCell ⟨u15.heap.size, 0, none⟩ (.int .i64 4)).setCell ⟨u15.heap.size, 1, none⟩ (.bool false)).setCell ⟨u15.heap.size, 2, none⟩ (.int .i64 0)).setCell ⟨u15.heap.size, 3, none⟩ (.int .i64 0)).setCell ⟨u15.heap.size, 4, none⟩ (.string ⟨#[]⟩)).setCell ⟨u15.heap.size, 5, none⟩ (.slice (some ⟨g20, 0, none⟩) (len + 1) c20)) = u21 at *
                  clear hHeld
                  have hHeld := hHeld1
                  clear hHeld1
                  try simp only [Act.put, List.setIfInBounds_toArray, List.set_cons_zero, List.set_cons_succ]
                  refine wpAnyH_done (by kernel_rfl) ?_ _
                  refine NoPanic.normal ?_
                  go_wp2_with fail
                  go_meet
                  exact ⟨_, _, _, rfl, s21, own21, hHeld.1⟩
          · skip
            have z22 : V.heap.size ≤ u14.heap.size := hHeld.1.size
            go_simp
            refine hK0.out _ _ ?hS22 (fun hHeld1 => ?_)
            case hS22 => exact unhide SK _ (keep_alloc hHeld _)
            clear hK0 K0
            have j22 := below1 u14 (Obj.cells #[.int .i64 0, .bool false, .int .i64 0, .int .i64 0, .string ⟨#[]⟩, .slice none 0 0] 26)
            have e22 := World.ownsRow.alloc e14 (Obj.cells #[.int .i64 0, .bool false, .int .i64 0, .int .i64 0, .string ⟨#[]⟩, .slice none 0 0] 26)
            have s22 := VT.Six.below s14 j22
            have o22 := Own.new u14 26
            have zb : V.heap.size ≤ u14.heap.size := z22
            have no22 := ne_new e14
            generalize u14.alloc (Obj.cells #[.int .i64 0, .bool false, .int .i64 0, .int .i64 0, .string ⟨#[]⟩, .slice none 0 0] 26) = u22 at *
            clear j22 e14 s14
            clear hHeld
            have hHeld := hHeld1
            clear hHeld1
            try simp only [Act.put, List.setIfInBounds_toArray, List.set_cons_zero, List.set_cons_succ]
            refine wpAnyH_ready (rs := [2]) (by kernel_rfl) (by simp) ?_
            refine AllReadyH.cons rfl (fun K0 hK0 => ?_) AllReadyH.nil
            · skip
              have z23 : V.heap.size ≤ u22.heap.size := hHeld.1.size
              obtain ⟨v23, u23, hrun, own23, hg, vn23, hob⟩ := app_any V.heap.size u22 (Value.slice (some ⟨u0.heap.size, 0, none⟩) 0 0) 0 [] e22 ((unhide HIN).below hHeld.1) (by omega) (by omega) z23 vn1
              rw [Nat.zero_add, List.nil_append] at own23
              refine wp_app (.tmp 12) (.tmp 13) (some 14) rfl rfl rfl rfl hrun ?_
              simp only [Act.put, List.setIfInBounds_toArray, List.set_cons_zero, List.set_cons_succ]
              refine hK0.out _ _ ?hS23 (fun hHeld1 => ?_)
              case hS23 => exact unhide SK _ (hHeld.1.grown hg z23 (fun k e => (e22.lt k e).1))
              clear hK0 K0
              have s23 := grown_six s22 hg (fun e => ns14 e.symm)
              have ns23 := ne_app hob s22.1 ns14
              have o23 := grown_own o22 hg (fun e => no22 e.symm)
              have no23 := ne_app hob o22.1.1 no22
              clear hrun hg hob e22 s22 o22
              clear hHeld
              have hHeld := hHeld1
              clear hHeld1
              refine wpAnyH_ready (rs := [5]) (by kernel_rfl) (by simp) ?_
              refine AllReadyH.cons rfl (fun K0 hK0 => ?_) AllReadyH.nil
              · skip
                have z24 : V.heap.size ≤ u23.heap.size := hHeld.1.size
                obtain ⟨v24, u24, hrun, own24, hg, vn24, hob⟩ := app_any V.heap.size u23 v23 len (cellsOf kid len) own23 (one_in ((unhide HX).below hHeld.1) (six_cells s23)) (by omega) (by omega) z24 vn23
                refine wp_app (.tmp 14) (.tmp 16) (some 17) rfl rfl rfl rfl hrun ?_
                simp only [Act.put, List.setIfInBounds_toArray, List.set_cons_zero, List.set_cons_succ]
                refine hK0.out _ _ ?hS24 (fun hHeld1 => ?_)
                case hS24 => exact unhide SK _ (hHeld.1.grown hg z24 (fun k e => (own23.lt k e).1))
                clear hK0 K0
                have o24 := grown_own o23 hg (fun e => no23 e.symm)
                have no24 := ne_app hob o23.1.1 no23
                obtain ⟨g24, c24, hvv, -, -⟩ := own24.form (by omega)
                subst hvv
                clear hrun hg hob own23 s23 o23
                clear hHeld
                have hHeld := hHeld1
                clear hHeld1
                refine takeAt 6 (some 18) ?v6x24 ⟨_, rfl, rfl, rfl, ?hy6x24⟩ (by kernel_rfl) (by kernel_rfl) (by kernel_rfl) (fun _ _ _ h => h) (by assumption) ?_
                case hy6x24 => (intro w0 hSw; (try dsimp only at hSw); go_simp; try (with_reducible rfl))
                simp only [Act.put, List.setIfInBounds_toArray, List.set_cons_zero, List.set_cons_succ]
                refine wpAnyH_ready (rs := [8]) (by kernel_rfl) (by simp) ?_
                refine AllReadyH.cons rfl (fun K0 hK0 => ?_) AllReadyH.nil
                · skip
                  have z25 : V.heap.size ≤ u24.heap.size := hHeld.1.size
                  obtain ⟨⟨-, e0, e1, e2, e3, e4, e5⟩, f0, f1, f2, f3, f4, f5⟩ := id o24
                  simp only [Nat.zero_add] at e0 e1 e2 e3 e4 e5
                  go_simp
                  clear e0 e1 e2 e3 e4 e5 f0 f1 f2 f3 f4 f5
                  refine hK0.out _ _ ?hS25 (fun hHeld1 => ?_)
                  case hS25 => exact unhide SK _ (set6 hHeld.1 zb _ _ _ _ _ _)
                  clear hK0 K0
                  have s25 := Own.put o24 4 false 0 0 ⟨#[]⟩ (some ⟨g24, 0, none⟩) (len + 1) c24
                  have own25 := own24.kept (put_grown u24 (u14.heap.size) (.int .i64 4) (.bool false) (.int .i64 0) (.int .i64 0) (.string ⟨#[]⟩) (.slice (some ⟨g24, 0, none⟩) (len + 1) c24)) (Or.inr no24)
                  generalize ((((((u24.setCell ⟨u14.heap.size, 0, none⟩ (.int .i64 4)).setCell ⟨u14.heap.size, 1, none⟩ (.bool false)).setCell ⟨u14.heap.size, 2, none⟩ (.int .i64 0)).setCell ⟨u14.heap.size, 3, none⟩ (.int .i64 0)).setCell ⟨u14.heap.size, 4, none⟩ (.string ⟨#[]⟩)).setCell ⟨u14.heap.size, 5, none⟩ (.slice (some ⟨g24, 0, none⟩) (len + 1) c24)) = u25 at *
                  clear hHeld
                  have hHeld := hHeld1
                  clear hHeld1
                  try simp only [Act.put, List.setIfInBounds_toArray, List.set_cons_zero, List.set_cons_succ]
                  refine wpAnyH_done (by kernel_rfl) ?_ _
                  refine NoPanic.normal ?_
                  go_wp2_with fail
                  go_meet
                  exact ⟨_, _, _, rfl, s25, own25, hHeld.1⟩
        · skip
          have z26 : V.heap.size ≤ u1.heap.size := hHeld.1.size
          go_simp
          refine hK0.out _ _ ?hS26 (fun hHeld1 => ?_)
          case hS26 => exact unhide SK _ (keep_alloc hHeld _)
          clear hK0 K0
          have j26 := below1 u1 (Obj.cells #[.int .i64 0, .bool false, .int .i64 0, .int .i64 0, .string ⟨#[]⟩, .slice none 0 0] 26)
          have e26 := World.ownsRow.alloc e1 (Obj.cells #[.int .i64 0, .bool false, .int .i64 0, .int .i64 0, .string ⟨#[]⟩, .slice none 0 0] 26)
          have o26 := Own.new u1 26
          have zb : V.heap.size ≤ u1.heap.size := z26
          have no26 := ne_new e1
          generalize u1.alloc (Obj.cells #[.int .i64 0, .bool false, .int .i64 0, .int .i64 0, .string ⟨#[]⟩, .slice none 0 0] 26) = u26 at *
          clear j26 e1
          clear hHeld
          have hHeld := hHeld1
          clear hHeld1
          try simp only [Act.put, List.setIfInBounds_toArray, List.set_cons_zero, List.set_cons_succ]
          refine wpAnyH_ready (rs := [2, 4]) (by kernel_rfl) (by simp) ?_
          refine AllReadyH.cons rfl (fun K0 hK0 => ?_) (AllReadyH.cons rfl (fun K0 hK0 => ?_) AllReadyH.nil)
          · skip
            have z27 : V.heap.size ≤ u26.heap.size := hHeld.1.size
            obtain ⟨v27, u27, hrun, own27, hg, vn27, hob⟩ := app_any V.heap.size u26 (Value.slice (some ⟨u0.heap.size, 0, none⟩) 0 0) 0 [] e26 ((unhide HIN).below hHeld.1) (by omega) (by omega) z27 vn1
            rw [Nat.zero_add, List.nil_append] at own27
            refine wp_app (.tmp 12) (.tmp 13) (some 14) rfl rfl rfl rfl hrun ?_
            simp only [Act.put, List.setIfInBounds_toArray, List.set_cons_zero, List.set_cons_succ]
            refine hK0.out _ _ ?hS27 (fun hHeld1 => ?_)
            case hS27 => exact unhide SK _ (hHeld.1.grown hg z27 (fun k e => (e26.lt k e).1))
            clear hK0 K0
            have o27 := grown_own o26 hg (fun e => no26 e.symm)
            have no27 := ne_app hob o26.1.1 no26
            clear hrun hg hob e26 o26
            clear hHeld
            have hHeld := hHeld1
            clear hHeld1
            refine wpAnyH_ready (rs := [4]) (by kernel_rfl) (by simp) ?_
            refine AllReadyH.cons rfl (fun K0 hK0 => ?_) AllReadyH.nil
            · skip
              have z28 : V.heap.size ≤ u27.heap.size := hHeld.1.size
              go_simp
              refine hK0.out _ _ ?hS28 (fun hHeld1 => ?_)
              case hS28 => exact unhide SK _ (keep_alloc hHeld _)
              clear hK0 K0
              have j28 := below1 u27 (Obj.cells #[.int .i64 k, .bool b, .int .i64 m, .int .i64 s, .string t, .slice a' len' cap'] 26)
              have e28 := World.ownsRow.alloc own27 (Obj.cells #[.int .i64 k, .bool b, .int .i64 m, .int .i64 s, .string t, .slice a' len' cap'] 26)
              have o28 := Own.below o27 j28
              have s28 : VT.Six (u27.alloc (Obj.cells #[.int .i64 k, .bool b, .int .i64 m, .int .i64 s, .string t, .slice a' len' cap'] 26)) u27.heap.size 0 k b m s t a' len' cap' := ⟨by simp, by go_simp, by go_simp, by go_simp, by go_simp, by go_simp, by go_simp⟩
              have ns28 := ne_new own27
              generalize u27.alloc (Obj.cells #[.int .i64 k, .bool b, .int .i64 m, .int .i64 s, .string t, .slice a' len' cap'] 26) = u28 at *
              clear j28 own27 o27
              clear hHeld
              have hHeld := hHeld1
              clear hHeld1
              try simp only [Act.put, List.setIfInBounds_toArray, List.set_cons_zero, List.set_cons_succ]
              refine wpAnyH_ready (rs := [5]) (by kernel_rfl) (by simp) ?_
              refine AllReadyH.cons rfl (fun K0 hK0 => ?_) AllReadyH.nil
              · skip
                have z29 : V.heap.size ≤ u28.heap.size := hHeld.1.size
                obtain ⟨v29, u29, hrun, own29, hg, vn29, hob⟩ := app_any V.heap.size u28 v27 len (cellsOf kid len) e28 (one_in ((unhide HX).below hHeld.1) (six_cells s28)) (by omega) (by omega) z29 vn27
                refine wp_app (.tmp 14) (.tmp 16) (some 17) rfl rfl rfl rfl hrun ?_
                simp only [Act.put, List.setIfInBounds_toArray, List.set_cons_zero, List.set_cons_succ]
                refine hK0.out _ _ ?hS29 (fun hHeld1 => ?_)
                case hS29 => exact unhide SK _ (hHeld.1.grown hg z29 (fun k e => (e28.lt k e).1))
                clear hK0 K0
                have o29 := grown_own o28 hg (fun e => no27 e.symm)
                have no29 := ne_app hob o28.1.1 no27
                obtain ⟨g29, c29, hvv, -, -⟩ := own29.form (by omega)
                subst hvv
                clear hrun hg hob e28 s28 o28
                clear hHeld
                have hHeld := hHeld1
                clear hHeld1
                refine takeAt 6 (some 18) ?v6x29 ⟨_, rfl, rfl, rfl, ?hy6x29⟩ (by kernel_rfl) (by kernel_rfl) (by kernel_rfl) (fun _ _ _ h => h) (by assumption) ?_
                case hy6x29 => (intro w0 hSw; (try dsimp only at hSw); go_simp; try (with_reducible rfl))
                simp only [Act.put, List.setIfInBounds_toArray, List.set_cons_zero, List.set_cons_succ]
                refine wpAnyH_ready (rs := [8]) (by kernel_rfl) (by simp) ?_
                refine AllReadyH.cons rfl (fun K0 hK0 => ?_) AllReadyH.nil
                · skip
                  have z30 : V.heap.size ≤ u29.heap.size := hHeld.1.size
                  obtain ⟨⟨-, e0, e1, e2, e3, e4, e5⟩, f0, f1, f2, f3, f4, f5⟩ := id o29
                  simp only [Nat.zero_add] at e0 e1 e2 e3 e4 e5
                  go_simp
                  clear e0 e1 e2 e3 e4 e5 f0 f1 f2 f3 f4 f5
                  refine hK0.out _ _ ?hS30 (fun hHeld1 => ?_)
                  case hS30 => exact unhide SK _ (set6 hHeld.1 zb _ _ _ _ _ _)
                  clear hK0 K0
                  have s30 := Own.put o29 4 false 0 0 ⟨#[]⟩ (some ⟨g29, 0, none⟩) (len + 1) c29
                  have own30 := own29.kept (put_grown u29 (u1.heap.size) (.int .i64 4) (.bool false) (.int .i64 0) (.int .i64 0) (.string ⟨#[]⟩) (.slice (some ⟨g29, 0, none⟩) (len + 1) c29)) (Or.inr no29)
                  generalize ((((((u29.setCell ⟨u1.heap.size, 0, none⟩ (.int .i64 4)).setCell ⟨u1.heap.size, 1, none⟩ (.bool false)).setCell ⟨u1.heap.size, 2, none⟩ (.int .i64 0)).setCell ⟨u1.heap.size, 3, none⟩ (.int .i64 0)).setCell ⟨u1.heap.size, 4, none⟩ (.string ⟨#[]⟩)).setCell ⟨u1.heap.size, 5, none⟩ (.slice (some ⟨g29, 0, none⟩) (len + 1) c29)) = u30 at *
                  clear hHeld
                  have hHeld := hHeld1
                  clear hHeld1
                  try simp only [Act.put, List.setIfInBounds_toArray, List.set_cons_zero, List.set_cons_succ]
                  refine wpAnyH_done (by kernel_rfl) ?_ _
                  refine NoPanic.normal ?_
                  go_wp2_with fail
                  go_meet
                  exact ⟨_, _, _, rfl, s30, own30, hHeld.1⟩
          · skip
            have z31 : V.heap.size ≤ u26.heap.size := hHeld.1.size
            go_simp
            refine hK0.out _ _ ?hS31 (fun hHeld1 => ?_)
            case hS31 => exact unhide SK _ (keep_alloc hHeld _)
            clear hK0 K0
            have j31 := below1 u26 (Obj.cells #[.int .i64 k, .bool b, .int .i64 m, .int .i64 s, .string t, .slice a' len' cap'] 26)
            have e31 := World.ownsRow.alloc e26 (Obj.cells #[.int .i64 k, .bool b, .int .i64 m, .int .i64 s, .string t, .slice a' len' cap'] 26)
            have o31 := Own.below o26 j31
            have s31 : VT.Six (u26.alloc (Obj.cells #[.int .i64 k, .bool b, .int .i64 m, .int .i64 s, .string t, .slice a' len' cap'] 26)) u26.heap.size 0 k b m s t a' len' cap' := ⟨by simp, by go_simp, by go_simp, by go_simp, by go_simp, by go_simp, by go_simp⟩
            have ns31 := ne_new e26
            generalize u26.alloc (Obj.cells #[.int .i64 k, .bool b, .int .i64 m, .int .i64 s, .string t, .slice a' len' cap'] 26) = u31 at *
            clear j31 e26 o26
            clear hHeld
            have hHeld := hHeld1
            clear hHeld1
            try simp only [Act.put, List.setIfInBounds_toArray, List.set_cons_zero, List.set_cons_succ]
            refine wpAnyH_ready (rs := [2]) (by kernel_rfl) (by simp) ?_
            refine AllReadyH.cons rfl (fun K0 hK0 => ?_) AllReadyH.nil
            · skip
              have z32 : V.heap.size ≤ u31.heap.size := hHeld.1.size
              obtain ⟨v32, u32, hrun, own32, hg, vn32, hob⟩ := app_any V.heap.size u31 (Value.slice (some ⟨u0.heap.size, 0, none⟩) 0 0) 0 [] e31 ((unhide HIN).below hHeld.1) (by omega) (by omega) z32 vn1
              rw [Nat.zero_add, List.nil_append] at own32
              refine wp_app (.tmp 12) (.tmp 13) (some 14) rfl rfl rfl rfl hrun ?_
              simp only [Act.put, List.setIfInBounds_toArray, List.set_cons_zero, List.set_cons_succ]
              refine hK0.out _ _ ?hS32 (fun hHeld1 => ?_)
              case hS32 => exact unhide SK _ (hHeld.1.grown hg z32 (fun k e => (e31.lt k e).1))
              clear hK0 K0
              have s32 := grown_six s31 hg (fun e => ns31 e.symm)
              have ns32 := ne_app hob s31.1 ns31
              have o32 := grown_own o31 hg (fun e => no26 e.symm)
              have no32 := ne_app hob o31.1.1 no26
              clear hrun hg hob e31 s31 o31
              clear hHeld
              have hHeld := hHeld1
              clear hHeld1
              refine wpAnyH_ready (rs := [5]) (by kernel_rfl) (by simp) ?_
              refine AllReadyH.cons rfl (fun K0 hK0 => ?_) AllReadyH.nil
              · skip
                have z33 : V.heap.size ≤ u32.heap.size := hHeld.1.size
                obtain ⟨v33, u33, hrun, own33, hg, vn33, hob⟩ := app_any V.heap.size u32 v32 len (cellsOf kid len) own32 (one_in ((unhide HX).below hHeld.1) (six_cells s32)) (by omega) (by omega) z33 vn32
                refine wp_app (.tmp 14) (.tmp 16) (some 17) rfl rfl rfl rfl hrun ?_
                simp only [Act.put, List.setIfInBounds_toArray, List.set_cons_zero, List.set_cons_succ]
                refine hK0.out _ _ ?hS33 (fun hHeld1 => ?_)
                case hS33 => exact unhide SK _ (hHeld.1.grown hg z33 (fun k e => (own32.lt k e).1))
                clear hK0 K0
                have o33 := grown_own o32 hg (fun e => no32 e.symm)
                have no33 := ne_app hob o32.1.1 no32
                obtain ⟨g33, c33, hvv, -, -⟩ := own33.form (by omega)
                subst hvv
                clear hrun hg hob own32 s32 o32
                clear hHeld
                have hHeld := hHeld1
                clear hHeld1
                refine takeAt 6 (some 18) ?v6x33 ⟨_, rfl, rfl, rfl, ?hy6x33⟩ (by kernel_rfl) (by kernel_rfl) (by kernel_rfl) (fun _ _ _ h => h) (by assumption) ?_
                case hy6x33 => (intro w0 hSw; (try dsimp only at hSw); go_simp; try (with_reducible rfl))
                simp only [Act.put, List.setIfInBounds_toArray, List.set_cons_zero, List.set_cons_succ]
                refine wpAnyH_ready (rs := [8]) (by kernel_rfl) (by simp) ?_
                refine AllReadyH.cons rfl (fun K0 hK0 => ?_) AllReadyH.nil
                · skip
                  have z34 : V.heap.size ≤ u33.heap.size := hHeld.1.size
                  obtain ⟨⟨-, e0, e1, e2, e3, e4, e5⟩, f0, f1, f2, f3, f4, f5⟩ := id o33
                  simp only [Nat.zero_add] at e0 e1 e2 e3 e4 e5
                  go_simp
                  clear e0 e1 e2 e3 e4 e5 f0 f1 f2 f3 f4 f5
                  refine hK0.out _ _ ?hS34 (fun hHeld1 => ?_)
                  case hS34 => exact unhide SK _ (set6 hHeld.1 zb _ _ _ _ _ _)
                  clear hK0 K0
                  have s34 := Own.put o33 4 false 0 0 ⟨#[]⟩ (some ⟨g33, 0, none⟩) (len + 1) c33
                  have own34 := own33.kept (put_grown u33 (u1.heap.size) (.int .i64 4) (.bool false) (.int .i64 0) (.int .i64 0) (.string ⟨#[]⟩) (.slice (some ⟨g33, 0, none⟩) (len + 1) c33)) (Or.inr no33)
                  generalize ((((((u33.setCell ⟨u1.heap.size, 0, none⟩ (.int .i64 4)).setCell ⟨u1.heap.size, 1, none⟩ (.bool false)).setCell ⟨u1.heap.size, 2, none⟩ (.int .i64 0)).setCell ⟨u1.heap.size, 3, none⟩ (.int .i64 0)).setCell ⟨u1.heap.size, 4, none⟩ (.string ⟨#[]⟩)).setCell ⟨u1.heap.size, 5, none⟩ (.slice (some ⟨g33, 0, none⟩) (len + 1) c33)) = u34 at *
                  clear hHeld
                  have hHeld := hHeld1
                  clear hHeld1
                  try simp only [Act.put, List.setIfInBounds_toArray, List.set_cons_zero, List.set_cons_succ]
                  refine wpAnyH_done (by kernel_rfl) ?_ _
                  refine NoPanic.normal ?_
                  go_wp2_with fail
                  go_meet
                  exact ⟨_, _, _, rfl, s34, own34, hHeld.1⟩
      · skip
        have z35 : V.heap.size ≤ u0.heap.size := hHeld.1.size
        go_simp
        refine hK0.out _ _ ?hS35 (fun hHeld1 => ?_)
        case hS35 => exact unhide SK _ (keep_alloc hHeld _)
        clear hK0 K0
        have j35 := below1 u0 (Obj.cells #[.int .i64 k, .bool b, .int .i64 m, .int .i64 s, .string t, .slice a' len' cap'] 26)
        have s35 : VT.Six (u0.alloc (Obj.cells #[.int .i64 k, .bool b, .int .i64 m, .int .i64 s, .string t, .slice a' len' cap'] 26)) u0.heap.size 0 k b m s t a' len' cap' := ⟨by simp, by go_simp, by go_simp, by go_simp, by go_simp, by go_simp, by go_simp⟩
        generalize u0.alloc (Obj.cells #[.int .i64 k, .bool b, .int .i64 m, .int .i64 s, .string t, .slice a' len' cap'] 26) = u35 at *
        clear j35 
        clear hHeld
        have hHeld := hHeld1
        clear hHeld1
        try simp only [Act.put, List.setIfInBounds_toArray, List.set_cons_zero, List.set_cons_succ]
        refine wpAnyH_ready (rs := [0, 7]) (by kernel_rfl) (by simp) ?_
        refine AllReadyH.cons rfl (fun K0 hK0 => ?_) (AllReadyH.cons rfl (fun K0 hK0 => ?_) AllReadyH.nil)
        · skip
          have z36 : V.heap.size ≤ u35.heap.size := hHeld.1.size
          go_simp
          refine hK0.out _ _ ?hS36 (fun hHeld1 => ?_)
          case hS36 => exact unhide SK _ (keep_alloc hHeld _)
          clear hK0 K0
          have j36 := below1 u35 (Obj.cells #[] 26)
          have s36 := VT.Six.below s35 j36
          have e36 := World.ownsRow_made (base := V.heap.size) (e := 26) (size := 6) u35 #[] 0 z36 (Nat.zero_le _) rfl
          have vn36 : (Value.slice (some ⟨u35.heap.size, 0, none⟩) 0 0) ≠ .slice none 0 0 := fun e => by cases e
          have ns36 := ne_slice 0 0 s35.1
          generalize u35.alloc (Obj.cells #[] 26) = u36 at *
          clear j36 s35
          clear hHeld
          have hHeld := hHeld1
          clear hHeld1
          try simp only [Act.put, List.setIfInBounds_toArray, List.set_cons_zero, List.set_cons_succ]
          refine wpAnyH_ready (rs := [2, 7]) (by kernel_rfl) (by simp) ?_
          refine AllReadyH.cons rfl (fun K0 hK0 => ?_) (AllReadyH.cons rfl (fun K0 hK0 => ?_) AllReadyH.nil)
          · skip
            have z37 : V.heap.size ≤ u36.heap.size := hHeld.1.size
            obtain ⟨v37, u37, hrun, own37, hg, vn37, hob⟩ := app_any V.heap.size u36 (Value.slice (some ⟨u35.heap.size, 0, none⟩) 0 0) 0 [] e36 ((unhide HIN).below hHeld.1) (by omega) (by omega) z37 vn36
            rw [Nat.zero_add, List.nil_append] at own37
            refine wp_app (.tmp 12) (.tmp 13) (some 14) rfl rfl rfl rfl hrun ?_
            simp only [Act.put, List.setIfInBounds_toArray, List.set_cons_zero, List.set_cons_succ]
            refine hK0.out _ _ ?hS37 (fun hHeld1 => ?_)
            case hS37 => exact unhide SK _ (hHeld.1.grown hg z37 (fun k e => (e36.lt k e).1))
            clear hK0 K0
            have s37 := grown_six s36 hg (fun e => ns36 e.symm)
            have ns37 := ne_app hob s36.1 ns36
            clear hrun hg hob e36 s36
            clear hHeld
            have hHeld := hHeld1
            clear hHeld1
            refine wpAnyH_ready (rs := [5, 7]) (by kernel_rfl) (by simp) ?_
            refine AllReadyH.cons rfl (fun K0 hK0 => ?_) (AllReadyH.cons rfl (fun K0 hK0 => ?_) AllReadyH.nil)
            · skip
              have z38 : V.heap.size ≤ u37.heap.size := hHeld.1.size
              obtain ⟨v38, u38, hrun, own38, hg, vn38, hob⟩ := app_any V.heap.size u37 v37 len (cellsOf kid len) own37 (one_in ((unhide HX).below hHeld.1) (six_cells s37)) (by omega) (by omega) z38 vn37
              refine wp_app (.tmp 14) (.tmp 16) (some 17) rfl rfl rfl rfl hrun ?_
              simp only [Act.put, List.setIfInBounds_toArray, List.set_cons_zero, List.set_cons_succ]
              refine hK0.out _ _ ?hS38 (fun hHeld1 => ?_)
              case hS38 => exact unhide SK _ (hHeld.1.grown hg z38 (fun k e => (own37.lt k e).1))
              clear hK0 K0
              obtain ⟨g38, c38, hvv, -, -⟩ := own38.form (by omega)
              subst hvv
              clear hrun hg hob own37 s37
              clear hHeld
              have hHeld := hHeld1
              clear hHeld1
              refine takeAt 6 (some 18) ?v6x38 ⟨_, rfl, rfl, rfl, ?hy6x38⟩ (by kernel_rfl) (by kernel_rfl) (by kernel_rfl) (fun _ _ _ h => h) (by assumption) ?_
              case hy6x38 => (intro w0 hSw; (try dsimp only at hSw); go_simp; try (with_reducible rfl))
              simp only [Act.put, List.setIfInBounds_toArray, List.set_cons_zero, List.set_cons_succ]
              refine wpAnyH_ready (rs := [7]) (by kernel_rfl) (by simp) ?_
              refine AllReadyH.cons rfl (fun K0 hK0 => ?_) AllReadyH.nil
              · skip
                have z39 : V.heap.size ≤ u38.heap.size := hHeld.1.size
                go_simp
                refine hK0.out _ _ ?hS39 (fun hHeld1 => ?_)
                case hS39 => exact unhide SK _ (keep_alloc hHeld _)
                clear hK0 K0
                have j39 := below1 u38 (Obj.cells #[.int .i64 0, .bool false, .int .i64 0, .int .i64 0, .string ⟨#[]⟩, .slice none 0 0] 26)
                have e39 := World.ownsRow.alloc own38 (Obj.cells #[.int .i64 0, .bool false, .int .i64 0, .int .i64 0, .string ⟨#[]⟩, .slice none 0 0] 26)
                have o39 := Own.new u38 26
                have zb : V.heap.size ≤ u38.heap.size := z39
                have no39 := ne_new own38
                generalize u38.alloc (Obj.cells #[.int .i64 0, .bool false, .int .i64 0, .int .i64 0, .string ⟨#[]⟩, .slice none 0 0] 26) = u39 at *
                clear j39 own38
                clear hHeld
                have hHeld := hHeld1
                clear hHeld1
                try simp only [Act.put, List.setIfInBounds_toArray, List.set_cons_zero, List.set_cons_succ]
                refine wpAnyH_ready (rs := [8]) (by kernel_rfl) (by simp) ?_
                refine AllReadyH.cons rfl (fun K0 hK0 => ?_) AllReadyH.nil
                · skip
                  have z40 : V.heap.size ≤ u39.heap.size := hHeld.1.size
                  obtain ⟨⟨-, e0, e1, e2, e3, e4, e5⟩, f0, f1, f2, f3, f4, f5⟩ := id o39
                  simp only [Nat.zero_add] at e0 e1 e2 e3 e4 e5
                  go_simp
                  clear e0 e1 e2 e3 e4 e5 f0 f1 f2 f3 f4 f5
                  refine hK0.out _ _ ?hS40 (fun hHeld1 => ?_)
                  case hS40 => exact unhide SK _ (set6 hHeld.1 zb _ _ _ _ _ _)
                  clear hK0 K0
                  have s40 := Own.put o39 4 false 0 0 ⟨#[]⟩ (some ⟨g38, 0, none⟩) (len + 1) c38
                  have own40 := e39.kept (put_grown u39 (u38.heap.size) (.int .i64 4) (.bool false) (.int .i64 0) (.int .i64 0) (.string ⟨#[]⟩) (.slice (some ⟨g38, 0, none⟩) (len + 1) c38)) (Or.inr no39)
                  generalize ((((((u39.setCell ⟨u38.heap.size, 0, none⟩ (.int .i64 4)).setCell ⟨u38.heap.size, 1, none⟩ (.bool false)).setCell ⟨u38.heap.size, 2, none⟩ (.int .i64 0)).setCell ⟨u38.heap.size, 3, none⟩ (.int .i64 0)).setCell ⟨u38.heap.size, 4, none⟩ (.string ⟨#[]⟩)).setCell ⟨u38.heap.size, 5, none⟩ (.slice (some ⟨g38, 0, none⟩) (len + 1) c38)) = u40 at *
                  clear hHeld
                  have hHeld := hHeld1
                  clear hHeld1
                  try simp only [Act.put, List.setIfInBounds_toArray, List.set_cons_zero, List.set_cons_succ]
                  refine wpAnyH_done (by kernel_rfl) ?_ _
                  refine NoPanic.normal ?_
                  go_wp2_with fail
                  go_meet
                  exact ⟨_, _, _, rfl, s40, own40, hHeld.1⟩
            · skip
              have z41 : V.heap.size ≤ u37.heap.size := hHeld.1.size
              go_simp
              refine hK0.out _ _ ?hS41 (fun hHeld1 => ?_)
              case hS41 => exact unhide SK _ (keep_alloc hHeld _)
              clear hK0 K0
              have j41 := below1 u37 (Obj.cells #[.int .i64 0, .bool false, .int .i64 0, .int .i64 0, .string ⟨#[]⟩, .slice none 0 0] 26)
              have e41 := World.ownsRow.alloc own37 (Obj.cells #[.int .i64 0, .bool false, .int .i64 0, .int .i64 0, .string ⟨#[]⟩, .slice none 0 0] 26)
              have s41 := VT.Six.below s37 j41
              have o41 := Own.new u37 26
              have zb : V.heap.size ≤ u37.heap.size := z41
              have no41 := ne_new own37
              generalize u37.alloc (Obj.cells #[.int .i64 0, .bool false, .int .i64 0, .int .i64 0, .string ⟨#[]⟩, .slice none 0 0] 26) = u41 at *
              clear j41 own37 s37
              clear hHeld
              have hHeld := hHeld1
              clear hHeld1
              try simp only [Act.put, List.setIfInBounds_toArray, List.set_cons_zero, List.set_cons_succ]
              refine wpAnyH_ready (rs := [5]) (by kernel_rfl) (by simp) ?_
              refine AllReadyH.cons rfl (fun K0 hK0 => ?_) AllReadyH.nil
              · skip
                have z42 : V.heap.size ≤ u41.heap.size := hHeld.1.size
                obtain ⟨v42, u42, hrun, own42, hg, vn42, hob⟩ := app_any V.heap.size u41 v37 len (cellsOf kid len) e41 (one_in ((unhide HX).below hHeld.1) (six_cells s41)) (by omega) (by omega) z42 vn37
                refine wp_app (.tmp 14) (.tmp 16) (some 17) rfl rfl rfl rfl hrun ?_
                simp only [Act.put, List.setIfInBounds_toArray, List.set_cons_zero, List.set_cons_succ]
                refine hK0.out _ _ ?hS42 (fun hHeld1 => ?_)
                case hS42 => exact unhide SK _ (hHeld.1.grown hg z42 (fun k e => (e41.lt k e).1))
                clear hK0 K0
                have o42 := grown_own o41 hg (fun e => no41 e.symm)
                have no42 := ne_app hob o41.1.1 no41
                obtain ⟨g42, c42, hvv, -, -⟩ := own42.form (by omega)
                subst hvv
                clear hrun hg hob e41 s41 o41
                clear hHeld
                have hHeld := hHeld1
                clear hHeld1
                refine takeAt 6 (some 18) ?v6x42 ⟨_, rfl, rfl, rfl, ?hy6x42⟩ (by kernel_rfl) (by kernel_rfl) (by kernel_rfl) (fun _ _ _ h => h) (by assumption) ?_
                case hy6x42 => (intro w0 hSw; (try dsimp only at hSw); go_simp; try (with_reducible rfl))
                simp only [Act.put, List.setIfInBounds_toArray, List.set_cons_zero, List.set_cons_succ]
                refine wpAnyH_ready (rs := [8]) (by kernel_rfl) (by simp) ?_
                refine AllReadyH.cons rfl (fun K0 hK0 => ?_) AllReadyH.nil
                · skip
                  have z43 : V.heap.size ≤ u42.heap.size := hHeld.1.size
                  obtain ⟨⟨-, e0, e1, e2, e3, e4, e5⟩, f0, f1, f2, f3, f4, f5⟩ := id o42
                  simp only [Nat.zero_add] at e0 e1 e2 e3 e4 e5
                  go_simp
                  clear e0 e1 e2 e3 e4 e5 f0 f1 f2 f3 f4 f5
                  refine hK0.out _ _ ?hS43 (fun hHeld1 => ?_)
                  case hS43 => exact unhide SK _ (set6 hHeld.1 zb _ _ _ _ _ _)
                  clear hK0 K0
                  have s43 := Own.put o42 4 false 0 0 ⟨#[]⟩ (some ⟨g42, 0, none⟩) (len + 1) c42
                  have own43 := own42.kept (put_grown u42 (u37.heap.size) (.int .i64 4) (.bool false) (.int .i64 0) (.int .i64 0) (.string ⟨#[]⟩) (.slice (some ⟨g42, 0, none⟩) (len + 1) c42)) (Or.inr no42)
                  generalize ((((((u42.setCell ⟨u37.heap.size, 0, none⟩ (.int .i64 4)).setCell ⟨u37.heap.size, 1, none⟩ (.bool false)).setCell ⟨u37.heap.size, 2, none⟩ (.int .i64 0)).setCell ⟨u37.heap.size, 3, none⟩ (.int .i64 0)).setCell ⟨u37.heap.size, 4, none⟩ (.string ⟨#[]⟩)).setCell ⟨u37.heap.size, 5, none⟩ (.slice (some ⟨g42, 0, none⟩) (len + 1) c42)) = u43 at *
                  clear hHeld
                  have hHeld := hHeld1
                  clear hHeld1
                  try simp only [Act.put, List.setIfInBounds_toArray, List.set_cons_zero, List.set_cons_succ]
                  refine wpAnyH_done (by kernel_rfl) ?_ _
                  refine NoPanic.normal ?_
                  go_wp2_with fail
                  go_meet
                  exact ⟨_, _, _, rfl, s43, own43, hHeld.1⟩
          · skip
            have z44 : V.heap.size ≤ u36.heap.size := hHeld.1.size
            go_simp
            refine hK0.out _ _ ?hS44 (fun hHeld1 => ?_)
            case hS44 => exact unhide SK _ (keep_alloc hHeld _)
            clear hK0 K0
            have j44 := below1 u36 (Obj.cells #[.int .i64 0, .bool false, .int .i64 0, .int .i64 0, .string ⟨#[]⟩, .slice none 0 0] 26)
            have e44 := World.ownsRow.alloc e36 (Obj.cells #[.int .i64 0, .bool false, .int .i64 0, .int .i64 0, .string ⟨#[]⟩, .slice none 0 0] 26)
            have s44 := VT.Six.below s36 j44
            have o44 := Own.new u36 26
            have zb : V.heap.size ≤ u36.heap.size := z44
            have no44 := ne_new e36
            generalize u36.alloc (Obj.cells #[.int .i64 0, .bool false, .int .i64 0, .int .i64 0, .string ⟨#[]⟩, .slice none 0 0] 26) = u44 at *
            clear j44 e36 s36
            clear hHeld
            have hHeld := hHeld1
            clear hHeld1
            try simp only [Act.put, List.setIfInBounds_toArray, List.set_cons_zero, List.set_cons_succ]
            refine wpAnyH_ready (rs := [2]) (by kernel_rfl) (by simp) ?_
            refine AllReadyH.cons rfl (fun K0 hK0 => ?_) AllReadyH.nil
            · skip
              have z45 : V.heap.size ≤ u44.heap.size := hHeld.1.size
              obtain ⟨v45, u45, hrun, own45, hg, vn45, hob⟩ := app_any V.heap.size u44 (Value.slice (some ⟨u35.heap.size, 0, none⟩) 0 0) 0 [] e44 ((unhide HIN).below hHeld.1) (by omega) (by omega) z45 vn36
              rw [Nat.zero_add, List.nil_append] at own45
              refine wp_app (.tmp 12) (.tmp 13) (some 14) rfl rfl rfl rfl hrun ?_
              simp only [Act.put, List.setIfInBounds_toArray, List.set_cons_zero, List.set_cons_succ]
              refine hK0.out _ _ ?hS45 (fun hHeld1 => ?_)
              case hS45 => exact unhide SK _ (hHeld.1.grown hg z45 (fun k e => (e44.lt k e).1))
              clear hK0 K0
              have s45 := grown_six s44 hg (fun e => ns36 e.symm)
              have ns45 := ne_app hob s44.1 ns36
              have o45 := grown_own o44 hg (fun e => no44 e.symm)
              have no45 := ne_app hob o44.1.1 no44
              clear hrun hg hob e44 s44 o44
              clear hHeld
              have hHeld := hHeld1
              clear hHeld1
              refine wpAnyH_ready (rs := [5]) (by kernel_rfl) (by simp) ?_
              refine AllReadyH.cons rfl (fun K0 hK0 => ?_) AllReadyH.nil
              · skip
                have z46 : V.heap.size ≤ u45.heap.size := hHeld.1.size
                obtain ⟨v46, u46, hrun, own46, hg, vn46, hob⟩ := app_any V.heap.size u45 v45 len (cellsOf kid len) own45 (one_in ((unhide HX).below hHeld.1) (six_cells s45)) (by omega) (by omega) z46 vn45
                refine wp_app (.tmp 14) (.tmp 16) (some 17) rfl rfl rfl rfl hrun ?_
                simp only [Act.put, List.setIfInBounds_toArray, List.set_cons_zero, List.set_cons_succ]
                refine hK0.out _ _ ?hS46 (fun hHeld1 => ?_)
                case hS46 => exact unhide SK _ (hHeld.1.grown hg z46 (fun k e => (own45.lt k e).1))
                clear hK0 K0
                have o46 := grown_own o45 hg (fun e => no45 e.symm)
                have no46 := ne_app hob o45.1.1 no45
                obtain ⟨g46, c46, hvv, -, -⟩ := own46.form (by omega)
                subst hvv
                clear hrun hg hob own45 s45 o45
                clear hHeld
                have hHeld := hHeld1
                clear hHeld1
                refine takeAt 6 (some 18) ?v6x46 ⟨_, rfl, rfl, rfl, ?hy6x46⟩ (by kernel_rfl) (by kernel_rfl) (by kernel_rfl) (fun _ _ _ h => h) (by assumption) ?_
                case hy6x46 => (intro w0 hSw; (try dsimp only at hSw); go_simp; try (with_reducible rfl))
                simp only [Act.put, List.setIfInBounds_toArray, List.set_cons_zero, List.set_cons_succ]
                refine wpAnyH_ready (rs := [8]) (by kernel_rfl) (by simp) ?_
                refine AllReadyH.cons rfl (fun K0 hK0 => ?_) AllReadyH.nil
                · skip
                  have z47 : V.heap.size ≤ u46.heap.size := hHeld.1.size
                  obtain ⟨⟨-, e0, e1, e2, e3, e4, e5⟩, f0, f1, f2, f3, f4, f5⟩ := id o46
                  simp only [Nat.zero_add] at e0 e1 e2 e3 e4 e5
                  go_simp
                  clear e0 e1 e2 e3 e4 e5 f0 f1 f2 f3 f4 f5
                  refine hK0.out _ _ ?hS47 (fun hHeld1 => ?_)
                  case hS47 => exact unhide SK _ (set6 hHeld.1 zb _ _ _ _ _ _)
                  clear hK0 K0
                  have s47 := Own.put o46 4 false 0 0 ⟨#[]⟩ (some ⟨g46, 0, none⟩) (len + 1) c46
                  have own47 := own46.kept (put_grown u46 (u36.heap.size) (.int .i64 4) (.bool false) (.int .i64 0) (.int .i64 0) (.string ⟨#[]⟩) (.slice (some ⟨g46, 0, none⟩) (len + 1) c46)) (Or.inr no46)
                  generalize ((((((u46.setCell ⟨u36.heap.size, 0, none⟩ (.int .i64 4)).setCell ⟨u36.heap.size, 1, none⟩ (.bool false)).setCell ⟨u36.heap.size, 2, none⟩ (.int .i64 0)).setCell ⟨u36.heap.size, 3, none⟩ (.int .i64 0)).setCell ⟨u36.heap.size, 4, none⟩ (.string ⟨#[]⟩)).setCell ⟨u36.heap.size, 5, none⟩ (.slice (some ⟨g46, 0, none⟩) (len + 1) c46)) = u47 at *
                  clear hHeld
                  have hHeld := hHeld1
                  clear hHeld1
                  try simp only [Act.put, List.setIfInBounds_toArray, List.set_cons_zero, List.set_cons_succ]
                  refine wpAnyH_done (by kernel_rfl) ?_ _
                  refine NoPanic.normal ?_
                  go_wp2_with fail
                  go_meet
                  exact ⟨_, _, _, rfl, s47, own47, hHeld.1⟩
        · skip
          have z48 : V.heap.size ≤ u35.heap.size := hHeld.1.size
          go_simp
          refine hK0.out _ _ ?hS48 (fun hHeld1 => ?_)
          case hS48 => exact unhide SK _ (keep_alloc hHeld _)
          clear hK0 K0
          have j48 := below1 u35 (Obj.cells #[.int .i64 0, .bool false, .int .i64 0, .int .i64 0, .string ⟨#[]⟩, .slice none 0 0] 26)
          have s48 := VT.Six.below s35 j48
          have o48 := Own.new u35 26
          have zb : V.heap.size ≤ u35.heap.size := z48
          generalize u35.alloc (Obj.cells #[.int .i64 0, .bool false, .int .i64 0, .int .i64 0, .string ⟨#[]⟩, .slice none 0 0] 26) = u48 at *
          clear j48 s35
          clear hHeld
          have hHeld := hHeld1
          clear hHeld1
          try simp only [Act.put, List.setIfInBounds_toArray, List.set_cons_zero, List.set_cons_succ]
          refine wpAnyH_ready (rs := [0]) (by kernel_rfl) (by simp) ?_
          refine AllReadyH.cons rfl (fun K0 hK0 => ?_) AllReadyH.nil
          · skip
            have z49 : V.heap.size ≤ u48.heap.size := hHeld.1.size
            go_simp
            refine hK0.out _ _ ?hS49 (fun hHeld1 => ?_)
            case hS49 => exact unhide SK _ (keep_alloc hHeld _)
            clear hK0 K0
            have j49 := below1 u48 (Obj.cells #[] 26)
            have s49 := VT.Six.below s48 j49
            have o49 := Own.below o48 j49
            have e49 := World.ownsRow_made (base := V.heap.size) (e := 26) (size := 6) u48 #[] 0 z49 (Nat.zero_le _) rfl
            have vn49 : (Value.slice (some ⟨u48.heap.size, 0, none⟩) 0 0) ≠ .slice none 0 0 := fun e => by cases e
            have ns49 := ne_slice 0 0 s48.1
            have no49 := ne_slice 0 0 o48.1.1
            generalize u48.alloc (Obj.cells #[] 26) = u49 at *
            clear j49 s48 o48
            clear hHeld
            have hHeld := hHeld1
            clear hHeld1
            try simp only [Act.put, List.setIfInBounds_toArray, List.set_cons_zero, List.set_cons_succ]
            refine wpAnyH_ready (rs := [2]) (by kernel_rfl) (by simp) ?_
            refine AllReadyH.cons rfl (fun K0 hK0 => ?_) AllReadyH.nil
            · skip
              have z50 : V.heap.size ≤ u49.heap.size := hHeld.1.size
              obtain ⟨v50, u50, hrun, own50, hg, vn50, hob⟩ := app_any V.heap.size u49 (Value.slice (some ⟨u48.heap.size, 0, none⟩) 0 0) 0 [] e49 ((unhide HIN).below hHeld.1) (by omega) (by omega) z50 vn49
              rw [Nat.zero_add, List.nil_append] at own50
              refine wp_app (.tmp 12) (.tmp 13) (some 14) rfl rfl rfl rfl hrun ?_
              simp only [Act.put, List.setIfInBounds_toArray, List.set_cons_zero, List.set_cons_succ]
              refine hK0.out _ _ ?hS50 (fun hHeld1 => ?_)
              case hS50 => exact unhide SK _ (hHeld.1.grown hg z50 (fun k e => (e49.lt k e).1))
              clear hK0 K0
              have s50 := grown_six s49 hg (fun e => ns49 e.symm)
              have ns50 := ne_app hob s49.1 ns49
              have o50 := grown_own o49 hg (fun e => no49 e.symm)
              have no50 := ne_app hob o49.1.1 no49
              clear hrun hg hob e49 s49 o49
              clear hHeld
              have hHeld := hHeld1
              clear hHeld1
              refine wpAnyH_ready (rs := [5]) (by kernel_rfl) (by simp) ?_
              refine AllReadyH.cons rfl (fun K0 hK0 => ?_) AllReadyH.nil
              · skip
                have z51 : V.heap.size ≤ u50.heap.size := hHeld.1.size
                obtain ⟨v51, u51, hrun, own51, hg, vn51, hob⟩ := app_any V.heap.size u50 v50 len (cellsOf kid len) own50 (one_in ((unhide HX).below hHeld.1) (six_cells s50)) (by omega) (by omega) z51 vn50
                refine wp_app (.tmp 14) (.tmp 16) (some 17) rfl rfl rfl rfl hrun ?_
                simp only [Act.put, List.setIfInBounds_toArray, List.set_cons_zero, List.set_cons_succ]
                refine hK0.out _ _ ?hS51 (fun hHeld1 => ?_)
                case hS51 => exact unhide SK _ (hHeld.1.grown hg z51 (fun k e => (own50.lt k e).1))
                clear hK0 K0
                have o51 := grown_own o50 hg (fun e => no50 e.symm)
                have no51 := ne_app hob o50.1.1 no50
                obtain ⟨g51, c51, hvv, -, -⟩ := own51.form (by omega)
                subst hvv
                clear hrun hg hob own50 s50 o50
                clear hHeld
                have hHeld := hHeld1
                clear hHeld1
                refine takeAt 6 (some 18) ?v6x51 ⟨_, rfl, rfl, rfl, ?hy6x51⟩ (by kernel_rfl) (by kernel_rfl) (by kernel_rfl) (fun _ _ _ h => h) (by assumption) ?_
                case hy6x51 => (intro w0 hSw; (try dsimp only at hSw); go_simp; try (with_reducible rfl))
                simp only [Act.put, List.setIfInBounds_toArray, List.set_cons_zero, List.set_cons_succ]
                refine wpAnyH_ready (rs := [8]) (by kernel_rfl) (by simp) ?_
                refine AllReadyH.cons rfl (fun K0 hK0 => ?_) AllReadyH.nil
                · skip
                  have z52 : V.heap.size ≤ u51.heap.size := hHeld.1.size
                  obtain ⟨⟨-, e0, e1, e2, e3, e4, e5⟩, f0, f1, f2, f3, f4, f5⟩ := id o51
                  simp only [Nat.zero_add] at e0 e1 e2 e3 e4 e5
                  go_simp
                  clear e0 e1 e2 e3 e4 e5 f0 f1 f2 f3 f4 f5
                  refine hK0.out _ _ ?hS52 (fun hHeld1 => ?_)
                  case hS52 => exact unhide SK _ (set6 hHeld.1 zb _ _ _ _ _ _)
                  clear hK0 K0
                  have s52 := Own.put o51 4 false 0 0 ⟨#[]⟩ (some ⟨g51, 0, none⟩) (len + 1) c51
                  have own52 := own51.kept (put_grown u51 (u35.heap.size) (.int .i64 4) (.bool false) (.int .i64 0) (.int .i64 0) (.string ⟨#[]⟩) (.slice (some ⟨g51, 0, none⟩) (len + 1) c51)) (Or.inr no51)
                  generalize ((((((u51.setCell ⟨u35.heap.size, 0, none⟩ (.int .i64 4)).setCell ⟨u35.heap.size, 1, none⟩ (.bool false)).setCell ⟨u35.heap.size, 2, none⟩ (.int .i64 0)).setCell ⟨u35.heap.size, 3, none⟩ (.int .i64 0)).setCell ⟨u35.heap.size, 4, none⟩ (.string ⟨#[]⟩)).setCell ⟨u35.heap.size, 5, none⟩ (.slice (some ⟨g51, 0, none⟩) (len + 1) c51)) = u52 at *
                  clear hHeld
                  have hHeld := hHeld1
                  clear hHeld1
                  try simp only [Act.put, List.setIfInBounds_toArray, List.set_cons_zero, List.set_cons_succ]
                  refine wpAnyH_done (by kernel_rfl) ?_ _
                  refine NoPanic.normal ?_
                  go_wp2_with fail
                  go_meet
                  exact ⟨_, _, _, rfl, s52, own52, hHeld.1⟩
      · skip
        have z53 : V.heap.size ≤ u0.heap.size := hHeld.1.size
        go_simp
        refine hK0.out _ _ ?hS53 (fun hHeld1 => ?_)
        case hS53 => exact unhide SK _ (keep_alloc hHeld _)
        clear hK0 K0
        have j53 := below1 u0 (Obj.cells #[.int .i64 0, .bool false, .int .i64 0, .int .i64 0, .string ⟨#[]⟩, .slice none 0 0] 26)
        have o53 := Own.new u0 26
        have zb : V.heap.size ≤ u0.heap.size := z53
        generalize u0.alloc (Obj.cells #[.int .i64 0, .bool false, .int .i64 0, .int .i64 0, .string ⟨#[]⟩, .slice none 0 0] 26) = u53 at *
        clear j53 
        clear hHeld
        have hHeld := hHeld1
        clear hHeld1
        try simp only [Act.put, List.setIfInBounds_toArray, List.set_cons_zero, List.set_cons_succ]
        refine wpAnyH_ready (rs := [0, 4]) (by kernel_rfl) (by simp) ?_
        refine AllReadyH.cons rfl (fun K0 hK0 => ?_) (AllReadyH.cons rfl (fun K0 hK0 => ?_) AllReadyH.nil)
        · skip
          have z54 : V.heap.size ≤ u53.heap.size := hHeld.1.size
          go_simp
          refine hK0.out _ _ ?hS54 (fun hHeld1 => ?_)
          case hS54 => exact unhide SK _ (keep_alloc hHeld _)
          clear hK0 K0
          have j54 := below1 u53 (Obj.cells #[] 26)
          have o54 := Own.below o53 j54
          have e54 := World.ownsRow_made (base := V.heap.size) (e := 26) (size := 6) u53 #[] 0 z54 (Nat.zero_le _) rfl
          have vn54 : (Value.slice (some ⟨u53.heap.size, 0, none⟩) 0 0) ≠ .slice none 0 0 := fun e => by cases e
          have no54 := ne_slice 0 0 o53.1.1
          generalize u53.alloc (Obj.cells #[] 26) = u54 at *
          clear j54 o53
          clear hHeld
          have hHeld := hHeld1
          clear hHeld1
          try simp only [Act.put, List.setIfInBounds_toArray, List.set_cons_zero, List.set_cons_succ]
          refine wpAnyH_ready (rs := [2, 4]) (by kernel_rfl) (by simp) ?_
          refine AllReadyH.cons rfl (fun K0 hK0 => ?_) (AllReadyH.cons rfl (fun K0 hK0 => ?_) AllReadyH.nil)
          · skip
            have z55 : V.heap.size ≤ u54.heap.size := hHeld.1.size
            obtain ⟨v55, u55, hrun, own55, hg, vn55, hob⟩ := app_any V.heap.size u54 (Value.slice (some ⟨u53.heap.size, 0, none⟩) 0 0) 0 [] e54 ((unhide HIN).below hHeld.1) (by omega) (by omega) z55 vn54
            rw [Nat.zero_add, List.nil_append] at own55
            refine wp_app (.tmp 12) (.tmp 13) (some 14) rfl rfl rfl rfl hrun ?_
            simp only [Act.put, List.setIfInBounds_toArray, List.set_cons_zero, List.set_cons_succ]
            refine hK0.out _ _ ?hS55 (fun hHeld1 => ?_)
            case hS55 => exact unhide SK _ (hHeld.1.grown hg z55 (fun k e => (e54.lt k e).1))
            clear hK0 K0
            have o55 := grown_own o54 hg (fun e => no54 e.symm)
            have no55 := ne_app hob o54.1.1 no54
            clear hrun hg hob e54 o54
            clear hHeld
            have hHeld := hHeld1
            clear hHeld1
            refine wpAnyH_ready (rs := [4]) (by kernel_rfl) (by simp) ?_
            refine AllReadyH.cons rfl (fun K0 hK0 => ?_) AllReadyH.nil
            · skip
              have z56 : V.heap.size ≤ u55.heap.size := hHeld.1.size
              go_simp
              refine hK0.out _ _ ?hS56 (fun hHeld1 => ?_)
              case hS56 => exact unhide SK _ (keep_alloc hHeld _)
              clear hK0 K0
              have j56 := below1 u55 (Obj.cells #[.int .i64 k, .bool b, .int .i64 m, .int .i64 s, .string t, .slice a' len' cap'] 26)
              have e56 := World.ownsRow.alloc own55 (Obj.cells #[.int .i64 k, .bool b, .int .i64 m, .int .i64 s, .string t, .slice a' len' cap'] 26)
              have o56 := Own.below o55 j56
              have s56 : VT.Six (u55.alloc (Obj.cells #[.int .i64 k, .bool b, .int .i64 m, .int .i64 s, .string t, .slice a' len' cap'] 26)) u55.heap.size 0 k b m s t a' len' cap' := ⟨by simp, by go_simp, by go_simp, by go_simp, by go_simp, by go_simp, by go_simp⟩
              have ns56 := ne_new own55
              generalize u55.alloc (Obj.cells #[.int .i64 k, .bool b, .int .i64 m, .int .i64 s, .string t, .slice a' len' cap'] 26) = u56 at *
              clear j56 own55 o55
              clear hHeld
              have hHeld := hHeld1
              clear hHeld1
              try simp only [Act.put, List.setIfInBounds_toArray, List.set_cons_zero, List.set_cons_succ]
              refine wpAnyH_ready (rs := [5]) (by kernel_rfl) (by simp) ?_
              refine AllReadyH.cons rfl (fun K0 hK0 => ?_) AllReadyH.nil
              · skip
                have z57 : V.heap.size ≤ u56.heap.size := hHeld.1.size
                obtain ⟨v57, u57, hrun, own57, hg, vn57, hob⟩ := app_any V.heap.size u56 v55 len (cellsOf kid len) e56 (one_in ((unhide HX).below hHeld.1) (six_cells s56)) (by omega) (by omega) z57 vn55
                refine wp_app (.tmp 14) (.tmp 16) (some 17) rfl rfl rfl rfl hrun ?_
                simp only [Act.put, List.setIfInBounds_toArray, List.set_cons_zero, List.set_cons_succ]
                refine hK0.out _ _ ?hS57 (fun hHeld1 => ?_)
                case hS57 => exact unhide SK _ (hHeld.1.grown hg z57 (fun k e => (e56.lt k e).1))
                clear hK0 K0
                have o57 := grown_own o56 hg (fun e => no55 e.symm)
                have no57 := ne_app hob o56.1.1 no55
                obtain ⟨g57, c57, hvv, -, -⟩ := own57.form (by omega)
                subst hvv
                clear hrun hg hob e56 s56 o56
                clear hHeld
                have hHeld := hHeld1
                clear hHeld1
                refine takeAt 6 (some 18) ?v6x57 ⟨_, rfl, rfl, rfl, ?hy6x57⟩ (by kernel_rfl) (by kernel_rfl) (by kernel_rfl) (fun _ _ _ h => h) (by assumption) ?_
                case hy6x57 => (intro w0 hSw; (try dsimp only at hSw); go_simp; try (with_reducible rfl))
                simp only [Act.put, List.setIfInBounds_toArray, List.set_cons_zero, List.set_cons_succ]
                refine wpAnyH_ready (rs := [8]) (by kernel_rfl) (by simp) ?_
                refine AllReadyH.cons rfl (fun K0 hK0 => ?_) AllReadyH.nil
                · skip
                  have z58 : V.heap.size ≤ u57.heap.size := hHeld.1.size
                  obtain ⟨⟨-, e0, e1, e2, e3, e4, e5⟩, f0, f1, f2, f3, f4, f5⟩ := id o57
                  simp only [Nat.zero_add] at e0 e1 e2 e3 e4 e5
                  go_simp
                  clear e0 e1 e2 e3 e4 e5 f0 f1 f2 f3 f4 f5
                  refine hK0.out _ _ ?hS58 (fun hHeld1 => ?_)
                  case hS58 => exact unhide SK _ (set6 hHeld.1 zb _ _ _ _ _ _)
                  clear hK0 K0
                  have s58 := Own.put o57 4 false 0 0 ⟨#[]⟩ (some ⟨g57, 0, none⟩) (len + 1) c57
                  have own58 := own57.kept (put_grown u57 (u0.heap.size) (.int .i64 4) (.bool false) (.int .i64 0) (.int .i64 0) (.string ⟨#[]⟩) (.slice (some ⟨g57, 0, none⟩) (len + 1) c57)) (Or.inr no57)
                  generalize ((((((u57.setCell ⟨u0.heap.size, 0, none⟩ (.int .i64 4)).setCell ⟨u0.heap.size, 1, none⟩ (.bool false)).setCell ⟨u0.heap.size, 2, none⟩ (.int .i64 0)).setCell ⟨u0.heap.size, 3, none⟩ (.int .i64 0)).setCell ⟨u0.heap.size, 4, none⟩ (.string ⟨#[]⟩)).setCell ⟨u0.heap.size, 5, none⟩ (.slice (some ⟨g57, 0, none⟩) (len + 1) c57)) = u58 at *
                  clear hHeld
                  have hHeld := hHeld1
                  clear hHeld1
                  try simp only [Act.put, List.setIfInBounds_toArray, List.set_cons_zero, List.set_cons_succ]
                  refine wpAnyH_done (by kernel_rfl) ?_ _
                  refine NoPanic.normal ?_
                  go_wp2_with fail
                  go_meet
                  exact ⟨_, _, _, rfl, s58, own58, hHeld.1⟩
          · skip
            have z59 : V.heap.size ≤ u54.heap.size := hHeld.1.size
            go_simp
            refine hK0.out _ _ ?hS59 (fun hHeld1 => ?_)
            case hS59 => exact unhide SK _ (keep_alloc hHeld _)
            clear hK0 K0
            have j59 := below1 u54 (Obj.cells #[.int .i64 k, .bool b, .int .i64 m, .int .i64 s, .string t, .slice a' len' cap'] 26)
            have e59 := World.ownsRow.alloc e54 (Obj.cells #[.int .i64 k, .bool b, .int .i64 m, .int .i64 s, .string t, .slice a' len' cap'] 26)
            have o59 := Own.below o54 j59
            have s59 : VT.Six (u54.alloc (Obj.cells #[.int .i64 k, .bool b, .int .i64 m, .int .i64 s, .string t, .slice a' len' cap'] 26)) u54.heap.size 0 k b m s t a' len' cap' := ⟨by simp, by go_simp, by go_simp, by go_simp, by go_simp, by go_simp, by go_simp⟩
            have ns59 := ne_new e54
            generalize u54.alloc (Obj.cells #[.int .i64 k, .bool b, .int .i64 m, .int .i64 s, .string t, .slice a' len' cap'] 26) = u59 at *
            clear j59 e54 o54
            clear hHeld
            have hHeld := hHeld1
            clear hHeld1
            try simp only [Act.put, List.setIfInBounds_toArray, List.set_cons_zero, List.set_cons_succ]
            refine wpAnyH_ready (rs := [2]) (by kernel_rfl) (by simp) ?_
            refine AllReadyH.cons rfl (fun K0 hK0 => ?_) AllReadyH.nil
            · skip
              have z60 : V.heap.size ≤ u59.heap.size := hHeld.1.size
              obtain ⟨v60, u60, hrun, own60, hg, vn60, hob⟩ := app_any V.heap.size u59 (Value.slice (some ⟨u53.heap.size, 0, none⟩) 0 0) 0 [] e59 ((unhide HIN).below hHeld.1) (by omega) (by omega) z60 vn54
              rw [Nat.zero_add, List.nil_append] at own60
              refine wp_app (.tmp 12) (.tmp 13) (some 14) rfl rfl rfl rfl hrun ?_
              simp only [Act.put, List.setIfInBounds_toArray, List.set_cons_zero, List.set_cons_succ]
              refine hK0.out _ _ ?hS60 (fun hHeld1 => ?_)
              case hS60 => exact unhide SK _ (hHeld.1.grown hg z60 (fun k e => (e59.lt k e).1))
              clear hK0 K0
              have s60 := grown_six s59 hg (fun e => ns59 e.symm)
              have ns60 := ne_app hob s59.1 ns59
              have o60 := grown_own o59 hg (fun e => no54 e.symm)
              have no60 := ne_app hob o59.1.1 no54
              clear hrun hg hob e59 s59 o59
              clear hHeld
              have hHeld := hHeld1
              clear hHeld1
              refine wpAnyH_ready (rs := [5]) (by kernel_rfl) (by simp) ?_
              refine AllReadyH.cons rfl (fun K0 hK0 => ?_) AllReadyH.nil
              · skip
                have z61 : V.heap.size ≤ u60.heap.size := hHeld.1.size
                obtain ⟨v61, u61, hrun, own61, hg, vn61, hob⟩ := app_any V.heap.size u60 v60 len (cellsOf kid len) own60 (one_in ((unhide HX).below hHeld.1) (six_cells s60)) (by omega) (by omega) z61 vn60
                refine wp_app (.tmp 14) (.tmp 16) (some 17) rfl rfl rfl rfl hrun ?_
                simp only [Act.put, List.setIfInBounds_toArray, List.set_cons_zero, List.set_cons_succ]
                refine hK0.out _ _ ?hS61 (fun hHeld1 => ?_)
                case hS61 => exact unhide SK _ (hHeld.1.grown hg z61 (fun k e => (own60.lt k e).1))
                clear hK0 K0
                have o61 := grown_own o60 hg (fun e => no60 e.symm)
                have no61 := ne_app hob o60.1.1 no60
                obtain ⟨g61, c61, hvv, -, -⟩ := own61.form (by omega)
                subst hvv
                clear hrun hg hob own60 s60 o60
                clear hHeld
                have hHeld := hHeld1
                clear hHeld1
                refine takeAt 6 (some 18) ?v6x61 ⟨_, rfl, rfl, rfl, ?hy6x61⟩ (by kernel_rfl) (by kernel_rfl) (by kernel_rfl) (fun _ _ _ h => h) (by assumption) ?_
                case hy6x61 => (intro w0 hSw; (try dsimp only at hSw); go_simp; try (with_reducible rfl))
                simp only [Act.put, List.setIfInBounds_toArray, List.set_cons_zero, List.set_cons_succ]
                refine wpAnyH_ready (rs := [8]) (by kernel_rfl) (by simp) ?_
                refine AllReadyH.cons rfl (fun K0 hK0 => ?_) AllReadyH.nil
                · skip
                  have z62 : V.heap.size ≤ u61.heap.size := hHeld.1.size
                  obtain ⟨⟨-, e0, e1, e2, e3, e4, e5⟩, f0, f1, f2, f3, f4, f5⟩ := id o61
                  simp only [Nat.zero_add] at e0 e1 e2 e3 e4 e5
                  go_simp
                  clear e0 e1 e2 e3 e4 e5 f0 f1 f2 f3 f4 f5
                  refine hK0.out _ _ ?hS62 (fun hHeld1 => ?_)
                  case hS62 => exact unhide SK _ (set6 hHeld.1 zb _ _ _ _ _ _)
                  clear hK0 K0
                  have s62 := Own.put o61 4 false 0 0 ⟨#[]⟩ (some ⟨g61, 0, none⟩) (len + 1) c61
                  have own62 := own61.kept (put_grown u61 (u0.heap.size) (.int .i64 4) (.bool false) (.int .i64 0) (.int .i64 0) (.string ⟨#[]⟩) (.slice (some ⟨g61, 0, none⟩) (len + 1) c61)) (Or.inr no61)
                  generalize ((((((u61.setCell ⟨u0.heap.size, 0, none⟩ (.int .i64 4)).setCell ⟨u0.heap.size, 1, none⟩ (.bool false)).setCell ⟨u0.heap.size, 2, none⟩ (.int .i64 0)).setCell ⟨u0.heap.size, 3, none⟩ (.int .i64 0)).setCell ⟨u0.heap.size, 4, none⟩ (.string ⟨#[]⟩)).setCell ⟨u0.heap.size, 5, none⟩ (.slice (some ⟨g61, 0, none⟩) (len + 1) c61)) = u62 at *
                  clear hHeld
                  have hHeld := hHeld1
                  clear hHeld1
                  try simp only [Act.put, List.setIfInBounds_toArray, List.set_cons_zero, List.set_cons_succ]
                  refine wpAnyH_done (by kernel_rfl) ?_ _
                  refine NoPanic.normal ?_
                  go_wp2_with fail
                  go_meet
                  exact ⟨_, _, _, rfl, s62, own62, hHeld.1⟩
        · skip
          have z63 : V.heap.size ≤ u53.heap.size := hHeld.1.size
          go_simp
          refine hK0.out _ _ ?hS63 (fun hHeld1 => ?_)
          case hS63 => exact unhide SK _ (keep_alloc hHeld _)
          clear hK0 K0
          have j63 := below1 u53 (Obj.cells #[.int .i64 k, .bool b, .int .i64 m, .int .i64 s, .string t, .slice a' len' cap'] 26)
          have o63 := Own.below o53 j63
          have s63 : VT.Six (u53.alloc (Obj.cells #[.int .i64 k, .bool b, .int .i64 m, .int .i64 s, .string t, .slice a' len' cap'] 26)) u53.heap.size 0 k b m s t a' len' cap' := ⟨by simp, by go_simp, by go_simp, by go_simp, by go_simp, by go_simp, by go_simp⟩
          generalize u53.alloc (Obj.cells #[.int .i64 k, .bool b, .int .i64 m, .int .i64 s, .string t, .slice a' len' cap'] 26) = u63 at *
          clear j63 o53
          clear hHeld
          have hHeld := hHeld1
          clear hHeld1
          try simp only [Act.put, List.setIfInBounds_toArray, List.set_cons_zero, List.set_cons_succ]
          refine wpAnyH_ready (rs := [0]) (by kernel_rfl) (by simp) ?_
          refine AllReadyH.cons rfl (fun K0 hK0 => ?_) AllReadyH.nil
          · skip
            have z64 : V.heap.size ≤ u63.heap.size := hHeld.1.size
            go_simp
            refine hK0.out _ _ ?hS64 (fun hHeld1 => ?_)
            case hS64 => exact unhide SK _ (keep_alloc hHeld _)
            clear hK0 K0
            have j64 := below1 u63 (Obj.cells #[] 26)
            have s64 := VT.Six.below s63 j64
            have o64 := Own.below o63 j64
            have e64 := World.ownsRow_made (base := V.heap.size) (e := 26) (size := 6) u63 #[] 0 z64 (Nat.zero_le _) rfl
            have vn64 : (Value.slice (some ⟨u63.heap.size, 0, none⟩) 0 0) ≠ .slice none 0 0 := fun e => by cases e
            have ns64 := ne_slice 0 0 s63.1
            have no64 := ne_slice 0 0 o63.1.1
            generalize u63.alloc (Obj.cells #[] 26) = u64 at *
            clear j64 s63 o63
            clear hHeld
            have hHeld := hHeld1
            clear hHeld1
            try simp only [Act.put, List.setIfInBounds_toArray, List.set_cons_zero, List.set_cons_succ]
            refine wpAnyH_ready (rs := [2]) (by kernel_rfl) (by simp) ?_
            refine AllReadyH.cons rfl (fun K0 hK0 => ?_) AllReadyH.nil
            · skip
              have z65 : V.heap.size ≤ u64.heap.size := hHeld.1.size
              obtain ⟨v65, u65, hrun, own65, hg, vn65, hob⟩ := app_any V.heap.size u64 (Value.slice (some ⟨u63.heap.size, 0, none⟩) 0 0) 0 [] e64 ((unhide HIN).below hHeld.1) (by omega) (by omega) z65 vn64
              rw [Nat.zero_add, List.nil_append] at own65
              refine wp_app (.tmp 12) (.tmp 13) (some 14) rfl rfl rfl rfl hrun ?_
              simp only [Act.put, List.setIfInBounds_toArray, List.set_cons_zero, List.set_cons_succ]
              refine hK0.out _ _ ?hS65 (fun hHeld1 => ?_)
              case hS65 => exact unhide SK _ (hHeld.1.grown hg z65 (fun k e => (e64.lt k e).1))
              clear hK0 K0
              have s65 := grown_six s64 hg (fun e => ns64 e.symm)
              have ns65 := ne_app hob s64.1 ns64
              have o65 := grown_own o64 hg (fun e => no64 e.symm)
              have no65 := ne_app hob o64.1.1 no64
              clear hrun hg hob e64 s64 o64
              clear hHeld
              have hHeld := hHeld1
              clear hHeld1
              refine wpAnyH_ready (rs := [5]) (by kernel_rfl) (by simp) ?_
              refine AllReadyH.cons rfl (fun K0 hK0 => ?_) AllReadyH.nil
              · skip
                have z66 : V.heap.size ≤ u65.heap.size := hHeld.1.size
                obtain ⟨v66, u66, hrun, own66, hg, vn66, hob⟩ := app_any V.heap.size u65 v65 len (cellsOf kid len) own65 (one_in ((unhide HX).below hHeld.1) (six_cells s65)) (by omega) (by omega) z66 vn65
                refine wp_app (.tmp 14) (.tmp 16) (some 17) rfl rfl rfl rfl hrun ?_
                simp only [Act.put, List.setIfInBounds_toArray, List.set_cons_zero, List.set_cons_succ]
                refine hK0.out _ _ ?hS66 (fun hHeld1 => ?_)
                case hS66 => exact unhide SK _ (hHeld.1.grown hg z66 (fun k e => (own65.lt k e).1))
                clear hK0 K0
                have o66 := grown_own o65 hg (fun e => no65 e.symm)
                have no66 := ne_app hob o65.1.1 no65
                obtain ⟨g66, c66, hvv, -, -⟩ := own66.form (by omega)
                subst hvv
                clear hrun hg hob own65 s65 o65
                clear hHeld
                have hHeld := hHeld1
                clear hHeld1
                refine takeAt 6 (some 18) ?v6x66 ⟨_, rfl, rfl, rfl, ?hy6x66⟩ (by kernel_rfl) (by kernel_rfl) (by kernel_rfl) (fun _ _ _ h => h) (by assumption) ?_
                case hy6x66 => (intro w0 hSw; (try dsimp only at hSw); go_simp; try (with_reducible rfl))
                simp only [Act.put, List.setIfInBounds_toArray, List.set_cons_zero, List.set_cons_succ]
                refine wpAnyH_ready (rs := [8]) (by kernel_rfl) (by simp) ?_
                refine AllReadyH.cons rfl (fun K0 hK0 => ?_) AllReadyH.nil
                · skip
                  have z67 : V.heap.size ≤ u66.heap.size := hHeld.1.size
                  obtain ⟨⟨-, e0, e1, e2, e3, e4, e5⟩, f0, f1, f2, f3, f4, f5⟩ := id o66
                  simp only [Nat.zero_add] at e0 e1 e2 e3 e4 e5
                  go_simp
                  clear e0 e1 e2 e3 e4 e5 f0 f1 f2 f3 f4 f5
                  refine hK0.out _ _ ?hS67 (fun hHeld1 => ?_)
                  case hS67 => exact unhide SK _ (set6 hHeld.1 zb _ _ _ _ _ _)
                  clear hK0 K0
                  have s67 := Own.put o66 4 false 0 0 ⟨#[]⟩ (some ⟨g66, 0, none⟩) (len + 1) c66
                  have own67 := own66.kept (put_grown u66 (u0.heap.size) (.int .i64 4) (.bool false) (.int .i64 0) (.int .i64 0) (.string ⟨#[]⟩) (.slice (some ⟨g66, 0, none⟩) (len + 1) c66)) (Or.inr no66)
                  generalize ((((((u66.setCell ⟨u0.heap.size, 0, none⟩ (.int .i64 4)).setCell ⟨u0.heap.size, 1, none⟩ (.bool false)).setCell ⟨u0.heap.size, 2, none⟩ (.int .i64 0)).setCell ⟨u0.heap.size, 3, none⟩ (.int .i64 0)).setCell ⟨u0.heap.size, 4, none⟩ (.string ⟨#[]⟩)).setCell ⟨u0.heap.size, 5, none⟩ (.slice (some ⟨g66, 0, none⟩) (len + 1) c66)) = u67 at *
                  clear hHeld
                  have hHeld := hHeld1
                  clear hHeld1
                  try simp only [Act.put, List.setIfInBounds_toArray, List.set_cons_zero, List.set_cons_succ]
                  refine wpAnyH_done (by kernel_rfl) ?_ _
                  refine NoPanic.normal ?_
                  go_wp2_with fail
                  go_meet
                  exact ⟨_, _, _, rfl, s67, own67, hHeld.1⟩
    case rest =>
      obtain ⟨b6, g, c6, rfl, sb, ob, hb⟩ := hcut
      obtain ⟨V2, hVV⟩ : ∃ x, x = wc := ⟨_, rfl⟩
      subst hVV
      have sa2 := VT.Six.below sa hb
      have iA := (unhide HIN).below hb
      have iB := more_in iA ((unhide HX).below hb) h8 ob
      have zz := hb.size
      have B2 := hide hb
      clear SK x0 x1 x2 x3 x4 x5 sa hb ob
      obtain ⟨g0, g1, g2, g3, g4, g5, g6⟩ := id sa2
      obtain ⟨j0, j1, j2, j3, j4, j5, j6⟩ := id sb
      simp only [Nat.zero_add] at g1 g2 g3 g4 g5 g6 j1 j2 j3 j4 j5 j6
      go_wp2_with fail
      clear g0 g1 g2 g3 g4 g5 g6 j0 j1 j2 j3 j4 j5 j6
      refine (vmay2 rfl iA iB).mono ?_
      rintro e V3 ⟨⟨r, rfl, hr⟩, hb3⟩
      have sa3 := VT.Six.below sa2 hb3
      have sb3 := VT.Six.below sb hb3
      have HA := hide (iA.below hb3)
      have HBB := hide (iB.below hb3)
      have B3 := hide (bstep (unhide B2) hb3)
      clear iA iB sa2 sb hb3 B2 HIN HX
      obtain ⟨g0, g1, g2, g3, g4, g5, g6⟩ := id sa3
      obtain ⟨j0, j1, j2, j3, j4, j5, j6⟩ := id sb3
      simp only [Nat.zero_add] at g1 g2 g3 g4 g5 g6 j1 j2 j3 j4 j5 j6
      cases r
      · clear hr
        go_wp2_with fail
        go_ret
        refine ⟨rfl, ?_⟩
        have b := unhide B0
        rw [← unhide HB] at b
        exact bstep b (unhide B3)
      obtain ⟨ha, hbk⟩ := hr rfl
      have m1 : (VT.mk 4 false 0 0 ⟨#[]⟩ a len cap kid).cmp (VT.mk 4 false 0 0 ⟨#[]⟩ (some ⟨g, 0, none⟩) (len + 1) c6 (fun i => if i < len then kid i else (VT.mk k b m s t a' len' cap' kid'))) = -1 := more_cmp rfl
      have c1 := fun w h h' => vcmp_any (VT.mk 4 false 0 0 ⟨#[]⟩ a len cap kid) (VT.mk 4 false 0 0 ⟨#[]⟩ (some ⟨g, 0, none⟩) (len + 1) c6 (fun i => if i < len then kid i else (VT.mk k b m s t a' len' cap' kid'))) w ha hbk h h'
      have c2 := fun w h h' => vcmp_any (VT.mk 4 false 0 0 ⟨#[]⟩ (some ⟨g, 0, none⟩) (len + 1) c6 (fun i => if i < len then kid i else (VT.mk k b m s t a' len' cap' kid'))) (VT.mk 4 false 0 0 ⟨#[]⟩ a len cap kid) w hbk ha h h'
      have c3 := fun w h h' => vequal_any (VT.mk 4 false 0 0 ⟨#[]⟩ a len cap kid) (VT.mk 4 false 0 0 ⟨#[]⟩ (some ⟨g, 0, none⟩) (len + 1) c6 (fun i => if i < len then kid i else (VT.mk k b m s t a' len' cap' kid'))) w ha hbk h h'
      have c4 := fun w h => copy_any (VT.mk 4 false 0 0 ⟨#[]⟩ a len cap kid) w ha h
      have c5 : ∀ (y : VT), y.same (VT.mk 4 false 0 0 ⟨#[]⟩ a len cap kid) = true → ∀ w, (VT.mk 4 false 0 0 ⟨#[]⟩ a len cap kid).In w → y.In w → Calls Try.prog 16 #[.agg #[.int .i64 4, .bool false, .int .i64 0, .int .i64 0, .string ⟨#[]⟩, .slice a len cap], y.val] w fun e w' => e = .returned (.bool true) ∧ Below w.heap.size w w' := by
        intro y hs w h h'
        have h0 := vequal_any (VT.mk 4 false 0 0 ⟨#[]⟩ a len cap kid) y w ha (okB_same y _ 2 hs ha) h h'
        rw [show (VT.mk 4 false 0 0 ⟨#[]⟩ a len cap kid).cmp y = 0 by rw [cmp_flip y, same_cmp y _ hs, cmp_self]; rfl] at h0
        exact h0
      rw [cmp_flip, m1] at c2
      rw [m1] at c1 c3
      have C1 := hide c1; have C2 := hide c2; have C3 := hide c3; have C4 := hide c4; have C5 := hide c5
      clear c1 c2 c3 c4 c5 m1 hr ha hbk
      have SK : Hid (∀ w', Below V3.heap.size V3 w' → (Below V3.heap.size V3 w' ∧ w'.cell? ⟨B + 1, 0, none⟩ = some (.int .i64 4) ∧ w'.cell? ⟨B + 1, 1, none⟩ = some (.bool false) ∧ w'.cell? ⟨B + 1, 2, none⟩ = some (.int .i64 0) ∧ w'.cell? ⟨B + 1, 3, none⟩ = some (.int .i64 0) ∧ w'.cell? ⟨B + 1, 4, none⟩ = some (.string ⟨#[]⟩) ∧ w'.cell? ⟨B + 1, 5, none⟩ = some (.slice a len cap) ∧ w'.cell? ⟨b6, 0, none⟩ = some (.int .i64 4) ∧ w'.cell? ⟨b6, 1, none⟩ = some (.bool false) ∧ w'.cell? ⟨b6, 2, none⟩ = some (.int .i64 0) ∧ w'.cell? ⟨b6, 3, none⟩ = some (.int .i64 0) ∧ w'.cell? ⟨b6, 4, none⟩ = some (.string ⟨#[]⟩) ∧ w'.cell? ⟨b6, 5, none⟩ = some (.slice (some ⟨g, 0, none⟩) (len + 1) c6))) := by
        intro w' kk
        exact ⟨kk, kcell kk g0 g1, kcell kk g0 g2, kcell kk g0 g3, kcell kk g0 g4, kcell kk g0 g5, kcell kk g0 g6, kcell kk j0 j1, kcell kk j0 j2, kcell kk j0 j3, kcell kk j0 j4, kcell kk j0 j5, kcell kk j0 j6⟩
      go_wp2_with fail
      refine wp_region_noPanic ?_
      refine wp_region_held_drew (S := fun w' => Below V3.heap.size V3 w' ∧ w'.cell? ⟨B + 1, 0, none⟩ = some (.int .i64 4) ∧ w'.cell? ⟨B + 1, 1, none⟩ = some (.bool false) ∧ w'.cell? ⟨B + 1, 2, none⟩ = some (.int .i64 0) ∧ w'.cell? ⟨B + 1, 3, none⟩ = some (.int .i64 0) ∧ w'.cell? ⟨B + 1, 4, none⟩ = some (.string ⟨#[]⟩) ∧ w'.cell? ⟨B + 1, 5, none⟩ = some (.slice a len cap) ∧ w'.cell? ⟨b6, 0, none⟩ = some (.int .i64 4) ∧ w'.cell? ⟨b6, 1, none⟩ = some (.bool false) ∧ w'.cell? ⟨b6, 2, none⟩ = some (.int .i64 0) ∧ w'.cell? ⟨b6, 3, none⟩ = some (.int .i64 0) ∧ w'.cell? ⟨b6, 4, none⟩ = some (.string ⟨#[]⟩) ∧ w'.cell? ⟨b6, 5, none⟩ = some (.slice (some ⟨g, 0, none⟩) (len + 1) c6)) (by kernel_rfl) ?hS0z (fun hHeld => ?_)
      case hS0z => exact unhide SK _ (Below.refl _ _).drew
      refine takeAt 0 (some 24) ?vz0 ⟨_, rfl, rfl, rfl, ?hyz0⟩ (by kernel_rfl) (by kernel_rfl) (by kernel_rfl) (fun _ _ _ h => h) (by assumption) ?_
      case hyz0 => (intro w0 hSw; (try dsimp only at hSw); go_simp; try (with_reducible rfl))
      simp only [Act.put, List.setIfInBounds_toArray, List.set_cons_zero, List.set_cons_succ]
      refine takeAt 1 (some 25) ?vz1 ⟨_, rfl, rfl, rfl, ?hyz1⟩ (by kernel_rfl) (by kernel_rfl) (by kernel_rfl) (fun _ _ _ h => h) (by assumption) ?_
      case hyz1 => (intro w0 hSw; (try dsimp only at hSw); go_simp; try (with_reducible rfl))
      simp only [Act.put, List.setIfInBounds_toArray, List.set_cons_zero, List.set_cons_succ]
      refine wpAnyH_ready (rs := [2]) (by kernel_rfl) (by simp) ?_
      refine AllReadyH.cons rfl (fun K0 hK0 => ?_) AllReadyH.nil
      go_simp
      refine (unhide C1 _ ((unhide HA).below hHeld.1) ((unhide HBB).below hHeld.1)).mono ?_
      rintro e n1 ⟨rfl, k1⟩
      go_wp2_with fail
      refine hK0.out _ _ ?hSz2 (fun hHeld1 => ?_)
      case hSz2 => exact unhide SK _ (keep_call hHeld k1)
      clear hK0 K0 hHeld
      have hHeld := hHeld1
      clear hHeld1
      try simp only [Act.put, List.setIfInBounds_toArray, List.set_cons_zero, List.set_cons_succ]
      refine takeAt 3 (some 27) ?vz3 ⟨_, rfl, rfl, rfl, ?hyz3⟩ (by kernel_rfl) (by kernel_rfl) (by kernel_rfl) (fun _ _ _ h => h) (by assumption) ?_
      case hyz3 => (intro w0 hSw; (try dsimp only at hSw); go_simp; try (with_reducible rfl))
      simp only [Act.put, List.setIfInBounds_toArray, List.set_cons_zero, List.set_cons_succ]
      refine takeAt 4 (some 28) ?vz4 ⟨_, rfl, rfl, rfl, ?hyz4⟩ (by kernel_rfl) (by kernel_rfl) (by kernel_rfl) (fun _ _ _ h => h) (by assumption) ?_
      case hyz4 => (intro w0 hSw; (try dsimp only at hSw); go_simp; try (with_reducible rfl))
      simp only [Act.put, List.setIfInBounds_toArray, List.set_cons_zero, List.set_cons_succ]
      refine takeAt 5 (some 29) ?vz5 ⟨_, rfl, rfl, rfl, ?hyz5⟩ (by kernel_rfl) (by kernel_rfl) (by kernel_rfl) (fun _ _ _ h => h) (by assumption) ?_
      case hyz5 => (intro w0 hSw; (try dsimp only at hSw); go_simp; try (with_reducible rfl))
      simp only [Act.put, List.setIfInBounds_toArray, List.set_cons_zero, List.set_cons_succ]
      refine takeAt 6 (some 30) ?vz6 ⟨_, rfl, rfl, rfl, ?hyz6⟩ (by kernel_rfl) (by kernel_rfl) (by kernel_rfl) (fun _ _ _ h => h) (by assumption) ?_
      case hyz6 => (intro w0 hSw; (try dsimp only at hSw); go_simp; try (with_reducible rfl))
      simp only [Act.put, List.setIfInBounds_toArray, List.set_cons_zero, List.set_cons_succ]
      refine wpAnyH_ready (rs := [7]) (by kernel_rfl) (by simp) ?_
      refine AllReadyH.cons rfl (fun K0 hK0 => ?_) AllReadyH.nil
      go_simp
      refine (unhide C2 _ ((unhide HBB).below hHeld.1) ((unhide HA).below hHeld.1)).mono ?_
      rintro e n2 ⟨rfl, k2⟩
      go_wp2_with fail
      refine hK0.out _ _ ?hSz7 (fun hHeld1 => ?_)
      case hSz7 => exact unhide SK _ (keep_call hHeld k2)
      clear hK0 K0 hHeld
      have hHeld := hHeld1
      clear hHeld1
      try simp only [Act.put, List.setIfInBounds_toArray, List.set_cons_zero, List.set_cons_succ]
      refine takeAt 8 (some 32) ?vz8 ⟨_, rfl, rfl, rfl, ?hyz8⟩ (by kernel_rfl) (by kernel_rfl) (by kernel_rfl) (fun _ _ _ h => h) (by assumption) ?_
      case hyz8 => (intro w0 hSw; (try dsimp only at hSw); go_simp; try (with_reducible rfl))
      simp only [Act.put, List.setIfInBounds_toArray, List.set_cons_zero, List.set_cons_succ]
      refine takeAt 9 (some 33) ?vz9 ⟨_, rfl, rfl, rfl, ?hyz9⟩ (by kernel_rfl) (by kernel_rfl) (by kernel_rfl) (fun _ _ _ h => h) (by assumption) ?_
      case hyz9 => (intro w0 hSw; (try dsimp only at hSw); go_simp; try (with_reducible rfl))
      simp only [Act.put, List.setIfInBounds_toArray, List.set_cons_zero, List.set_cons_succ]
      refine takeAt 10 (some 34) ?vz10 ⟨_, rfl, rfl, rfl, ?hyz10⟩ (by kernel_rfl) (by kernel_rfl) (by kernel_rfl) (fun _ _ _ h => h) (by assumption) ?_
      case hyz10 => (intro w0 hSw; (try dsimp only at hSw); go_simp; try (with_reducible rfl))
      simp only [Act.put, List.setIfInBounds_toArray, List.set_cons_zero, List.set_cons_succ]
      refine takeAt 11 (some 35) ?vz11 ⟨_, rfl, rfl, rfl, ?hyz11⟩ (by kernel_rfl) (by kernel_rfl) (by kernel_rfl) (fun _ _ _ h => h) (by assumption) ?_
      case hyz11 => (intro w0 hSw; (try dsimp only at hSw); go_simp; try (with_reducible rfl))
      simp only [Act.put, List.setIfInBounds_toArray, List.set_cons_zero, List.set_cons_succ]
      refine takeAt 12 (some 36) ?vz12 ⟨_, rfl, rfl, rfl, ?hyz12⟩ (by kernel_rfl) (by kernel_rfl) (by kernel_rfl) (fun _ _ _ h => h) (by assumption) ?_
      case hyz12 => (intro w0 hSw; (try dsimp only at hSw); go_simp; try (with_reducible rfl))
      simp only [Act.put, List.setIfInBounds_toArray, List.set_cons_zero, List.set_cons_succ]
      refine wpAnyH_ready (rs := [13]) (by kernel_rfl) (by simp) ?_
      refine AllReadyH.cons rfl (fun K0 hK0 => ?_) AllReadyH.nil
      go_simp
      refine (unhide C3 _ ((unhide HA).below hHeld.1) ((unhide HBB).below hHeld.1)).mono ?_
      rintro e n3 ⟨rfl, k3⟩
      go_wp2_with fail
      refine hK0.out _ _ ?hSz13 (fun hHeld1 => ?_)
      case hSz13 => exact unhide SK _ (keep_call hHeld k3)
      clear hK0 K0 hHeld
      have hHeld := hHeld1
      clear hHeld1
      try simp only [Act.put, List.setIfInBounds_toArray, List.set_cons_zero, List.set_cons_succ]
      refine takeAt 14 (some 38) ?vz14 ⟨_, rfl, rfl, rfl, ?hyz14⟩ (by kernel_rfl) (by kernel_rfl) (by kernel_rfl) (fun _ _ _ h => h) (by assumption) ?_
      case hyz14 => (intro w0 hSw; (try dsimp only at hSw); go_simp; try (with_reducible rfl))
      simp only [Act.put, List.setIfInBounds_toArray, List.set_cons_zero, List.set_cons_succ]
      refine takeAt 15 (some 39) ?vz15 ⟨_, rfl, rfl, rfl, ?hyz15⟩ (by kernel_rfl) (by kernel_rfl) (by kernel_rfl) (fun _ _ _ h => h) (by assumption) ?_
      case hyz15 => (intro w0 hSw; (try dsimp only at hSw); go_simp; try (with_reducible rfl))
      simp only [Act.put, List.setIfInBounds_toArray, List.set_cons_zero, List.set_cons_succ]
      refine takeAt 16 (some 40) ?vz16 ⟨_, rfl, rfl, rfl, ?hyz16⟩ (by kernel_rfl) (by kernel_rfl) (by kernel_rfl) (fun _ _ _ h => h) (by assumption) ?_
      case hyz16 => (intro w0 hSw; (try dsimp only at hSw); go_simp; try (with_reducible rfl))
      simp only [Act.put, List.setIfInBounds_toArray, List.set_cons_zero, List.set_cons_succ]
      refine takeAt 17 (some 41) ?vz17 ⟨_, rfl, rfl, rfl, ?hyz17⟩ (by kernel_rfl) (by kernel_rfl) (by kernel_rfl) (fun _ _ _ h => h) (by assumption) ?_
      case hyz17 => (intro w0 hSw; (try dsimp only at hSw); go_simp; try (with_reducible rfl))
      simp only [Act.put, List.setIfInBounds_toArray, List.set_cons_zero, List.set_cons_succ]
      refine takeAt 18 (some 42) ?vz18 ⟨_, rfl, rfl, rfl, ?hyz18⟩ (by kernel_rfl) (by kernel_rfl) (by kernel_rfl) (fun _ _ _ h => h) (by assumption) ?_
      case hyz18 => (intro w0 hSw; (try dsimp only at hSw); go_simp; try (with_reducible rfl))
      simp only [Act.put, List.setIfInBounds_toArray, List.set_cons_zero, List.set_cons_succ]
      refine wpAnyH_ready (rs := [19]) (by kernel_rfl) (by simp) ?_
      refine AllReadyH.cons rfl (fun K0 hK0 => ?_) AllReadyH.nil
      go_simp
      refine (unhide C4 _ ((unhide HA).below hHeld.1)).mono ?_
      rintro e n4 ⟨⟨y, rfl, yin, yfr, ysm⟩, k4⟩
      go_wp2_with fail
      refine hK0.out _ _ ?hSz19 (fun hHeld1 => ?_)
      case hSz19 => exact unhide SK _ (keep_call hHeld k4)
      clear hK0 K0 hHeld
      have hHeld := hHeld1
      clear hHeld1
      try simp only [Act.put, List.setIfInBounds_toArray, List.set_cons_zero, List.set_cons_succ]
      refine wpAnyH_ready (rs := [20]) (by kernel_rfl) (by simp) ?_
      refine AllReadyH.cons rfl (fun K0 hK0 => ?_) AllReadyH.nil
      go_simp
      refine (unhide C5 _ ysm _ ((unhide HA).below hHeld.1) yin).mono ?_
      rintro e n5 ⟨rfl, k5⟩
      go_wp2_with fail
      refine hK0.out _ _ ?hSz20 (fun hHeld1 => ?_)
      case hSz20 => exact unhide SK _ (keep_call hHeld k5)
      clear hK0 K0 hHeld
      have hHeld := hHeld1
      clear hHeld1
      try simp only [Act.put, List.setIfInBounds_toArray, List.set_cons_zero, List.set_cons_succ]
      refine takeAt 21 (some 45) ?vz21 ⟨_, rfl, rfl, rfl, ?hyz21⟩ (by kernel_rfl) (by kernel_rfl) (by kernel_rfl) (fun _ _ _ h => h) (by assumption) ?_
      case hyz21 => (intro w0 hSw; (try dsimp only at hSw); go_simp; try (with_reducible rfl))
      simp only [Act.put, List.setIfInBounds_toArray, List.set_cons_zero, List.set_cons_succ]
      refine takeAt 22 (some 46) ?vz22 ⟨_, rfl, rfl, rfl, ?hyz22⟩ (by kernel_rfl) (by kernel_rfl) (by kernel_rfl) (fun _ _ _ h => h) (by assumption) ?_
      case hyz22 => (intro w0 hSw; (try dsimp only at hSw); go_simp; try (with_reducible rfl))
      simp only [Act.put, List.setIfInBounds_toArray, List.set_cons_zero, List.set_cons_succ]
      refine wpAnyH_ready (rs := [23]) (by kernel_rfl) (by simp) ?_
      refine AllReadyH.cons rfl (fun K0 hK0 => ?_) AllReadyH.nil
      go_simp
      refine (known_any _).mono ?_
      rintro e n6 ⟨rfl, k6⟩
      go_wp2_with fail
      refine hK0.out _ _ ?hSz23 (fun hHeld1 => ?_)
      case hSz23 => exact unhide SK _ (keep_call hHeld k6)
      clear hK0 K0 hHeld
      have hHeld := hHeld1
      clear hHeld1
      try simp only [Act.put, List.setIfInBounds_toArray, List.set_cons_zero, List.set_cons_succ]
      refine takeAt 24 (some 48) ?vz24 ⟨_, rfl, rfl, rfl, ?hyz24⟩ (by kernel_rfl) (by kernel_rfl) (by kernel_rfl) (fun _ _ _ h => h) (by assumption) ?_
      case hyz24 => (intro w0 hSw; (try dsimp only at hSw); go_simp; try (with_reducible rfl))
      simp only [Act.put, List.setIfInBounds_toArray, List.set_cons_zero, List.set_cons_succ]
      refine takeAt 25 (some 4) ?vz25 ⟨_, rfl, rfl, rfl, ?hyz25⟩ (by kernel_rfl) (by kernel_rfl) (by kernel_rfl) (fun _ _ _ h => h) (by assumption) ?_
      case hyz25 => (intro w0 hSw; (try dsimp only at hSw); go_simp; try (with_reducible rfl))
      simp only [Act.put, List.setIfInBounds_toArray, List.set_cons_zero, List.set_cons_succ]
      refine wpAnyH_done (by kernel_rfl) ?_ _
      refine NoPanic.normal ?_
      go_wp2_with fail
      go_ret
      refine ⟨rfl, ?_⟩
      have b := unhide B0
      rw [← unhide HB] at b
      exact bstep b (bstep (unhide B3) hHeld.1)
end Go.Proofs.Ythccmlkcdinfdac

/- EvalThree0: laid together. -/
import Derived.Test.YtfdimdjmnfdecaaGreatNBC
import Derived.Deep.DeepCutAuto
set_option linter.unusedVariables false
set_option linter.unusedSimpArgs false
set_option maxHeartbeats 8000000
/- The walk of EvalThree at a = 0. (Printed by mkthree.py.) -/
namespace Go.Proofs.YtfdimdjmnfdecaaGreat
open Go.RowKit
open VT (leaf mkV)
attribute [local go_sem ↓] Go.wp_at_zero Go.wp_at_succ

set_option maxRecDepth 10000 in
theorem three_00 (w : World) : Calls Tryz.prog 8 #[.int .i64 0, .int .i64 0] w fun e w' => e = .returned (.bool true) ∧ Below w.heap.size w w' := by
 have TD0 := hide (fun a9 w h => thr_TD thL0 (by decide) th_calc0 (booV false) (booV false) (ok_boo _) (ok_boo _) (boo_bareE _) (boo_bareE _) _ th_ev0_00 a9 w h)
 unfold thL0 at TD0
 have TD1 := hide (fun a9 w h => thr_TD thL1 (by decide) th_calc1 (booV false) (booV false) (ok_boo _) (ok_boo _) (boo_bareE _) (boo_bareE _) _ th_ev1_00 a9 w h)
 unfold thL1 at TD1
 have TD2 := hide (fun a9 w h => thr_TD thL2 (by decide) th_calc2 (booV false) (booV false) (ok_boo _) (ok_boo _) (boo_bareE _) (boo_bareE _) _ th_ev2_00 a9 w h)
 unfold thL2 at TD2
 have b0 := below1 w (Obj.cells #[.int .i64 1, .bool false, .int .i64 0, .int .i64 0, .string ⟨#[]⟩, .slice none 0 0, .int .i64 1, .bool true, .int .i64 0, .int .i64 0, .string ⟨#[]⟩, .slice none 0 0, .int .i64 0, .bool false, .int .i64 0, .int .i64 0, .string ⟨#[]⟩, .slice none 0 0] 32)
 obtain ⟨c0, c1, c2, c3, c4, c5, c6, c7, c8, c9, c10, c11, c12, c13, c14, c15, c16, c17⟩ := thr_cells w
 have z0 : (w.alloc (Obj.cells #[.int .i64 1, .bool false, .int .i64 0, .int .i64 0, .string ⟨#[]⟩, .slice none 0 0, .int .i64 1, .bool true, .int .i64 0, .int .i64 0, .string ⟨#[]⟩, .slice none 0 0, .int .i64 0, .bool false, .int .i64 0, .int .i64 0, .string ⟨#[]⟩, .slice none 0 0] 32)).heap.size = w.heap.size + 1 := by simp
 go_enter Tryz.func8, Tryz.ntmps8
 go_wp2_with fail
 generalize w.alloc (Obj.cells #[.int .i64 1, .bool false, .int .i64 0, .int .i64 0, .string ⟨#[]⟩, .slice none 0 0, .int .i64 1, .bool true, .int .i64 0, .int .i64 0, .string ⟨#[]⟩, .slice none 0 0, .int .i64 0, .bool false, .int .i64 0, .int .i64 0, .string ⟨#[]⟩, .slice none 0 0] 32) = V at *
 have SL : Hid (∀ w', Below V.heap.size V w' → (w'.cell? ⟨w.heap.size, 0, none⟩ = some (.int .i64 1) ∧ w'.cell? ⟨w.heap.size, 1, none⟩ = some (.bool false) ∧ w'.cell? ⟨w.heap.size, 2, none⟩ = some (.int .i64 0) ∧ w'.cell? ⟨w.heap.size, 3, none⟩ = some (.int .i64 0) ∧ w'.cell? ⟨w.heap.size, 4, none⟩ = some (.string ⟨#[]⟩) ∧ w'.cell? ⟨w.heap.size, 5, none⟩ = some (.slice none 0 0) ∧ w'.cell? ⟨w.heap.size, 6, none⟩ = some (.int .i64 1) ∧ w'.cell? ⟨w.heap.size, 7, none⟩ = some (.bool true) ∧ w'.cell? ⟨w.heap.size, 8, none⟩ = some (.int .i64 0) ∧ w'.cell? ⟨w.heap.size, 9, none⟩ = some (.int .i64 0) ∧ w'.cell? ⟨w.heap.size, 10, none⟩ = some (.string ⟨#[]⟩) ∧ w'.cell? ⟨w.heap.size, 11, none⟩ = some (.slice none 0 0) ∧ w'.cell? ⟨w.heap.size, 12, none⟩ = some (.int .i64 0) ∧ w'.cell? ⟨w.heap.size, 13, none⟩ = some (.bool false) ∧ w'.cell? ⟨w.heap.size, 14, none⟩ = some (.int .i64 0) ∧ w'.cell? ⟨w.heap.size, 15, none⟩ = some (.int .i64 0) ∧ w'.cell? ⟨w.heap.size, 16, none⟩ = some (.string ⟨#[]⟩) ∧ w'.cell? ⟨w.heap.size, 17, none⟩ = some (.slice none 0 0))) := hide (fun w' kk => ⟨kcell kk (World.block_lt_of_cell? _ _ c0) c0, kcell kk (World.block_lt_of_cell? _ _ c1) c1, kcell kk (World.block_lt_of_cell? _ _ c2) c2, kcell kk (World.block_lt_of_cell? _ _ c3) c3, kcell kk (World.block_lt_of_cell? _ _ c4) c4, kcell kk (World.block_lt_of_cell? _ _ c5) c5, kcell kk (World.block_lt_of_cell? _ _ c6) c6, kcell kk (World.block_lt_of_cell? _ _ c7) c7, kcell kk (World.block_lt_of_cell? _ _ c8) c8, kcell kk (World.block_lt_of_cell? _ _ c9) c9, kcell kk (World.block_lt_of_cell? _ _ c10) c10, kcell kk (World.block_lt_of_cell? _ _ c11) c11, kcell kk (World.block_lt_of_cell? _ _ c12) c12, kcell kk (World.block_lt_of_cell? _ _ c13) c13, kcell kk (World.block_lt_of_cell? _ _ c14) c14, kcell kk (World.block_lt_of_cell? _ _ c15) c15, kcell kk (World.block_lt_of_cell? _ _ c16) c16, kcell kk (World.block_lt_of_cell? _ _ c17) c17⟩)
 have SK : Hid (∀ w', Below V.heap.size V w' → (Below V.heap.size V w' ∧ w'.cell? ⟨w.heap.size, 0, none⟩ = some (.int .i64 1) ∧ w'.cell? ⟨w.heap.size, 1, none⟩ = some (.bool false) ∧ w'.cell? ⟨w.heap.size, 2, none⟩ = some (.int .i64 0) ∧ w'.cell? ⟨w.heap.size, 3, none⟩ = some (.int .i64 0) ∧ w'.cell? ⟨w.heap.size, 4, none⟩ = some (.string ⟨#[]⟩) ∧ w'.cell? ⟨w.heap.size, 5, none⟩ = some (.slice none 0 0))) := hide (fun w' kk => ⟨kk, kcell kk (World.block_lt_of_cell? _ _ c0) c0, kcell kk (World.block_lt_of_cell? _ _ c1) c1, kcell kk (World.block_lt_of_cell? _ _ c2) c2, kcell kk (World.block_lt_of_cell? _ _ c3) c3, kcell kk (World.block_lt_of_cell? _ _ c4) c4, kcell kk (World.block_lt_of_cell? _ _ c5) c5⟩)
 clear c0 c1 c2 c3 c4 c5 c6 c7 c8 c9 c10 c11 c12 c13 c14 c15 c16 c17
 refine wp_region_noPanic ?_
 refine wp_region_held_drew (S := fun w' => Below V.heap.size V w' ∧ w'.cell? ⟨w.heap.size, 0, none⟩ = some (.int .i64 1) ∧ w'.cell? ⟨w.heap.size, 1, none⟩ = some (.bool false) ∧ w'.cell? ⟨w.heap.size, 2, none⟩ = some (.int .i64 0) ∧ w'.cell? ⟨w.heap.size, 3, none⟩ = some (.int .i64 0) ∧ w'.cell? ⟨w.heap.size, 4, none⟩ = some (.string ⟨#[]⟩) ∧ w'.cell? ⟨w.heap.size, 5, none⟩ = some (.slice none 0 0)) (by kernel_rfl) ?hS0a (fun hHeld => ?_)
 case hS0a => exact unhide SK _ (Below.refl _ _).drew
 have jda : Below V.heap.size V V.drew := (Below.refl _ _).drew
 clear jda
 generalize V.drew = u0a at *
 refine takeA 0 (some 34) ?va0x0 ⟨_, rfl, rfl, rfl, ?ya0x0⟩ ?_
 case ya0x0 => intro w0 hS; go_simp; try (with_reducible rfl)
 simp only [Act.put, List.setIfInBounds_toArray, List.set_cons_zero, List.set_cons_succ]
 refine takeA 1 (some 35) ?va1x0 ⟨_, rfl, rfl, rfl, ?ya1x0⟩ ?_
 case ya1x0 => intro w0 hS; go_simp; try (with_reducible rfl)
 simp only [Act.put, List.setIfInBounds_toArray, List.set_cons_zero, List.set_cons_succ]
 refine takeA 2 (some 36) ?va2x0 ⟨_, rfl, rfl, rfl, ?ya2x0⟩ ?_
 case ya2x0 => intro w0 hS; go_simp; try (with_reducible rfl)
 simp only [Act.put, List.setIfInBounds_toArray, List.set_cons_zero, List.set_cons_succ]
 refine takeA 3 (some 37) ?va3x0 ⟨_, rfl, rfl, rfl, ?ya3x0⟩ ?_
 case ya3x0 => intro w0 hS; (try dsimp only at hS); go_simp; try (with_reducible rfl)
 simp only [Act.put, List.setIfInBounds_toArray, List.set_cons_zero, List.set_cons_succ]
 refine takeA 4 (some 38) ?va4x0 ⟨_, rfl, rfl, rfl, ?ya4x0⟩ ?_
 case ya4x0 => intro w0 hS; go_simp; try (with_reducible rfl)
 simp only [Act.put, List.setIfInBounds_toArray, List.set_cons_zero, List.set_cons_succ]
 refine takeA 5 (some 39) ?va5x0 ⟨_, rfl, rfl, rfl, ?ya5x0⟩ ?_
 case ya5x0 => intro w0 hS; go_simp; try (with_reducible rfl)
 simp only [Act.put, List.setIfInBounds_toArray, List.set_cons_zero, List.set_cons_succ]
 refine takeA 6 (some 40) ?va6x0 ⟨_, rfl, rfl, rfl, ?ya6x0⟩ ?_
 case ya6x0 => intro w0 hS; go_simp; try (with_reducible rfl)
 simp only [Act.put, List.setIfInBounds_toArray, List.set_cons_zero, List.set_cons_succ]
 refine takeA 7 (some 41) ?va7x0 ⟨_, rfl, rfl, rfl, ?ya7x0⟩ ?_
 case ya7x0 => intro w0 hS; go_simp; try (with_reducible rfl)
 simp only [Act.put, List.setIfInBounds_toArray, List.set_cons_zero, List.set_cons_succ]
 refine takeA 8 (some 42) ?va8x0 ⟨_, rfl, rfl, rfl, ?ya8x0⟩ ?_
 case ya8x0 => intro w0 hS; (try dsimp only at hS); go_simp; try (with_reducible rfl)
 simp only [Act.put, List.setIfInBounds_toArray, List.set_cons_zero, List.set_cons_succ]
 refine takeA 9 (some 43) ?va9x0 ⟨_, rfl, rfl, rfl, ?ya9x0⟩ ?_
 case ya9x0 => intro w0 hS; go_simp; try (with_reducible rfl)
 simp only [Act.put, List.setIfInBounds_toArray, List.set_cons_zero, List.set_cons_succ]
 refine wpAnyH_ready (rs := [10]) (by kernel_rfl) (by simp) ?_
 refine AllReadyH.cons rfl (fun K0 hK0 => ?_) AllReadyH.nil
 go_simp
 refine hK0.out _ _ ?hS1a (fun hHeld1 => ?_)
 case hS1a => exact unhide SK _ (keep_alloc hHeld _)
 clear hK0 K0
 have j1a := below1 u0a (Obj.cells #[.string ⟨#[97]⟩, .int .i64 1, .bool false, .int .i64 0, .int .i64 0, .string ⟨#[]⟩, .slice none 0 0, .string ⟨#[98]⟩, .int .i64 1, .bool false, .int .i64 0, .int .i64 0, .string ⟨#[]⟩, .slice none 0 0] 48)
 have z1a : V.heap.size ≤ u0a.heap.size := hHeld.1.size
 have EN1a := hide (env2 (w := u0a.alloc (Obj.cells #[.string ⟨#[97]⟩, .int .i64 1, .bool false, .int .i64 0, .int .i64 0, .string ⟨#[]⟩, .slice none 0 0, .string ⟨#[98]⟩, .int .i64 1, .bool false, .int .i64 0, .int .i64 0, .string ⟨#[]⟩, .slice none 0 0] 48)) (g := u0a.heap.size) ⟨#[97]⟩ ⟨#[98]⟩ _ _ (boo_in _ _) (boo_in _ _) (by go_simp) (fun j hj => by match j, hj with | 0, _ => (go_simp; rfl) | 1, _ => (go_simp; rfl) | 2, _ => (go_simp; rfl) | 3, _ => (go_simp; rfl) | 4, _ => (go_simp; rfl) | 5, _ => (go_simp; rfl)) (by go_simp) (fun j hj => by match j, hj with | 0, _ => (go_simp; rfl) | 1, _ => (go_simp; rfl) | 2, _ => (go_simp; rfl) | 3, _ => (go_simp; rfl) | 4, _ => (go_simp; rfl) | 5, _ => (go_simp; rfl)))
 generalize u0a.alloc (Obj.cells #[.string ⟨#[97]⟩, .int .i64 1, .bool false, .int .i64 0, .int .i64 0, .string ⟨#[]⟩, .slice none 0 0, .string ⟨#[98]⟩, .int .i64 1, .bool false, .int .i64 0, .int .i64 0, .string ⟨#[]⟩, .slice none 0 0] 48) = u1a at *
 generalize u0a.heap.size = g1a at *
 clear j1a
 clear hHeld 
 have hHeld := hHeld1
 clear hHeld1
 try simp only [Act.put, List.setIfInBounds_toArray, List.set_cons_zero, List.set_cons_succ]
 refine takeA 11 (some 6) ?va11x1 ⟨_, rfl, rfl, rfl, ?ya11x1⟩ ?_
 case ya11x1 => intro w0 hS; go_simp; try (with_reducible rfl)
 simp only [Act.put, List.setIfInBounds_toArray, List.set_cons_zero, List.set_cons_succ]
 refine wpAnyH_done (by kernel_rfl) ?_ _
 refine NoPanic.normal ?_
 have EN := EN1a
 have BZ := hHeld.1
 clear hHeld

 go_wp2_with fail
 refine (unhide TD0 _ _ (unhide EN)).mono ?_
 rintro e v1 ⟨⟨v, rfl, T, rfl, hT, hTl, hTb⟩, k1⟩
 obtain ⟨a0, d0, kid0, rfl⟩ := leaf_form (k := 1) (b := false) (m := 0) (s := 0) (t := ⟨#[]⟩) hT hTb
 have HT0 := hide hT
 have EN1 := hide (((unhide EN).below k1).below (below1 v1 (Obj.cells #[.int .i64 1, .bool false, .int .i64 0, .int .i64 0, .string ⟨#[]⟩, .slice a0 0 d0] 32)))
 have BZ1 := bstep (bstep BZ k1) (below1 v1 (Obj.cells #[.int .i64 1, .bool false, .int .i64 0, .int .i64 0, .string ⟨#[]⟩, .slice a0 0 d0] 32))
 have X0_0 := six_new v1 1 false 0 0 ⟨#[]⟩ a0 0 d0
 clear hT hTl hTb k1 BZ EN TD0 
 dsimp only [VT.val]
 go_wp2_with fail
 generalize v1.alloc (Obj.cells #[.int .i64 1, .bool false, .int .i64 0, .int .i64 0, .string ⟨#[]⟩, .slice a0 0 d0] 32) = y1 at *
 generalize v1.heap.size = g0 at *
 refine (unhide TD1 _ _ (unhide EN1)).mono ?_
 rintro e v2 ⟨⟨v, rfl, T, rfl, hT, hTl, hTb⟩, k1⟩
 obtain ⟨a1, d1, kid1, rfl⟩ := leaf_form (k := 1) (b := false) (m := 0) (s := 0) (t := ⟨#[]⟩) hT hTb
 have HT1 := hide hT
 have EN2 := hide (((unhide EN1).below k1).below (below1 v2 (Obj.cells #[.int .i64 1, .bool false, .int .i64 0, .int .i64 0, .string ⟨#[]⟩, .slice a1 0 d1] 32)))
 have BZ2 := bstep (bstep BZ1 k1) (below1 v2 (Obj.cells #[.int .i64 1, .bool false, .int .i64 0, .int .i64 0, .string ⟨#[]⟩, .slice a1 0 d1] 32))
 have X0_1 := (X0_0.below k1).below (below1 v2 (Obj.cells #[.int .i64 1, .bool false, .int .i64 0, .int .i64 0, .string ⟨#[]⟩, .slice a1 0 d1] 32))
 have X1_1 := six_new v2 1 false 0 0 ⟨#[]⟩ a1 0 d1
 clear hT hTl hTb k1 BZ1 EN1 TD1 X0_0
 dsimp only [VT.val]
 go_wp2_with fail
 generalize v2.alloc (Obj.cells #[.int .i64 1, .bool false, .int .i64 0, .int .i64 0, .string ⟨#[]⟩, .slice a1 0 d1] 32) = y2 at *
 generalize v2.heap.size = g1 at *
 refine (unhide TD2 _ _ (unhide EN2)).mono ?_
 rintro e v3 ⟨⟨v, rfl, T, rfl, hT, hTl, hTb⟩, k1⟩
 obtain ⟨a2, d2, kid2, rfl⟩ := leaf_form (k := 1) (b := true) (m := 0) (s := 0) (t := ⟨#[]⟩) hT hTb
 have HT2 := hide hT
 have EN3 := hide (((unhide EN2).below k1).below (below1 v3 (Obj.cells #[.int .i64 1, .bool true, .int .i64 0, .int .i64 0, .string ⟨#[]⟩, .slice a2 0 d2] 32)))
 have BZ3 := bstep (bstep BZ2 k1) (below1 v3 (Obj.cells #[.int .i64 1, .bool true, .int .i64 0, .int .i64 0, .string ⟨#[]⟩, .slice a2 0 d2] 32))
 have X0_2 := (X0_1.below k1).below (below1 v3 (Obj.cells #[.int .i64 1, .bool true, .int .i64 0, .int .i64 0, .string ⟨#[]⟩, .slice a2 0 d2] 32))
 have X1_2 := (X1_1.below k1).below (below1 v3 (Obj.cells #[.int .i64 1, .bool true, .int .i64 0, .int .i64 0, .string ⟨#[]⟩, .slice a2 0 d2] 32))
 have X2_2 := six_new v3 1 true 0 0 ⟨#[]⟩ a2 0 d2
 clear hT hTl hTb k1 BZ2 EN2 TD2 X0_1 X1_1
 dsimp only [VT.val]
 clear EN3
 go_upto_region 18 with fail
 have BY := bstep BZ3 (below1 _ (Obj.cells #[.int .i64 1, .int .i64 0, .int .i64 2] 3))
 have Y0 := X0_2.below (below1 _ (Obj.cells #[.int .i64 1, .int .i64 0, .int .i64 2] 3))
 have Y1 := X1_2.below (below1 _ (Obj.cells #[.int .i64 1, .int .i64 0, .int .i64 2] 3))
 have Y2 := X2_2.below (below1 _ (Obj.cells #[.int .i64 1, .int .i64 0, .int .i64 2] 3))
 clear BZ3 X0_2 X1_2 X2_2
 generalize (v3.alloc (Obj.cells #[.int .i64 1, .bool true, .int .i64 0, .int .i64 0, .string ⟨#[]⟩, .slice a2 0 d2] 32)).alloc (Obj.cells #[.int .i64 1, .int .i64 0, .int .i64 2] 3) = Z at *
 generalize v3.heap.size = g2 at *
 obtain ⟨y00, y01, y02, y03, y04, y05, y06⟩ := Y0
 obtain ⟨y10, y11, y12, y13, y14, y15, y16⟩ := Y1
 obtain ⟨y20, y21, y22, y23, y24, y25, y26⟩ := Y2
 simp only [Nat.zero_add] at y01 y02 y03 y04 y05 y06 y11 y12 y13 y14 y15 y16 y21 y22 y23 y24 y25 y26
 obtain ⟨c0, c1, c2, c3, c4, c5, c6, c7, c8, c9, c10, c11, c12, c13, c14, c15, c16, c17⟩ := unhide SL _ BY
 have SK2 : Hid (∀ w', Below Z.heap.size Z w' → (Below Z.heap.size Z w' ∧ w'.cell? ⟨g0, 0, none⟩ = some (.int .i64 1) ∧ w'.cell? ⟨g0, 1, none⟩ = some (.bool false) ∧ w'.cell? ⟨g0, 2, none⟩ = some (.int .i64 0) ∧ w'.cell? ⟨g0, 3, none⟩ = some (.int .i64 0) ∧ w'.cell? ⟨g0, 4, none⟩ = some (.string ⟨#[]⟩) ∧ w'.cell? ⟨g0, 5, none⟩ = some (.slice a0 0 d0) ∧ w'.cell? ⟨g1, 0, none⟩ = some (.int .i64 1) ∧ w'.cell? ⟨g1, 1, none⟩ = some (.bool false) ∧ w'.cell? ⟨g1, 2, none⟩ = some (.int .i64 0) ∧ w'.cell? ⟨g1, 3, none⟩ = some (.int .i64 0) ∧ w'.cell? ⟨g1, 4, none⟩ = some (.string ⟨#[]⟩) ∧ w'.cell? ⟨g1, 5, none⟩ = some (.slice a1 0 d1) ∧ w'.cell? ⟨g2, 0, none⟩ = some (.int .i64 1) ∧ w'.cell? ⟨g2, 1, none⟩ = some (.bool true) ∧ w'.cell? ⟨g2, 2, none⟩ = some (.int .i64 0) ∧ w'.cell? ⟨g2, 3, none⟩ = some (.int .i64 0) ∧ w'.cell? ⟨g2, 4, none⟩ = some (.string ⟨#[]⟩) ∧ w'.cell? ⟨g2, 5, none⟩ = some (.slice a2 0 d2) ∧ w'.cell? ⟨w.heap.size, 0, none⟩ = some (.int .i64 1) ∧ w'.cell? ⟨w.heap.size, 1, none⟩ = some (.bool false) ∧ w'.cell? ⟨w.heap.size, 2, none⟩ = some (.int .i64 0) ∧ w'.cell? ⟨w.heap.size, 3, none⟩ = some (.int .i64 0) ∧ w'.cell? ⟨w.heap.size, 4, none⟩ = some (.string ⟨#[]⟩) ∧ w'.cell? ⟨w.heap.size, 5, none⟩ = some (.slice none 0 0) ∧ w'.cell? ⟨w.heap.size, 6, none⟩ = some (.int .i64 1) ∧ w'.cell? ⟨w.heap.size, 7, none⟩ = some (.bool true) ∧ w'.cell? ⟨w.heap.size, 8, none⟩ = some (.int .i64 0) ∧ w'.cell? ⟨w.heap.size, 9, none⟩ = some (.int .i64 0) ∧ w'.cell? ⟨w.heap.size, 10, none⟩ = some (.string ⟨#[]⟩) ∧ w'.cell? ⟨w.heap.size, 11, none⟩ = some (.slice none 0 0))) := hide (fun w' kk => ⟨kk, kcell kk (World.block_lt_of_cell? _ _ y01) y01, kcell kk (World.block_lt_of_cell? _ _ y02) y02, kcell kk (World.block_lt_of_cell? _ _ y03) y03, kcell kk (World.block_lt_of_cell? _ _ y04) y04, kcell kk (World.block_lt_of_cell? _ _ y05) y05, kcell kk (World.block_lt_of_cell? _ _ y06) y06, kcell kk (World.block_lt_of_cell? _ _ y11) y11, kcell kk (World.block_lt_of_cell? _ _ y12) y12, kcell kk (World.block_lt_of_cell? _ _ y13) y13, kcell kk (World.block_lt_of_cell? _ _ y14) y14, kcell kk (World.block_lt_of_cell? _ _ y15) y15, kcell kk (World.block_lt_of_cell? _ _ y16) y16, kcell kk (World.block_lt_of_cell? _ _ y21) y21, kcell kk (World.block_lt_of_cell? _ _ y22) y22, kcell kk (World.block_lt_of_cell? _ _ y23) y23, kcell kk (World.block_lt_of_cell? _ _ y24) y24, kcell kk (World.block_lt_of_cell? _ _ y25) y25, kcell kk (World.block_lt_of_cell? _ _ y26) y26, kcell kk (World.block_lt_of_cell? _ _ c0) c0, kcell kk (World.block_lt_of_cell? _ _ c1) c1, kcell kk (World.block_lt_of_cell? _ _ c2) c2, kcell kk (World.block_lt_of_cell? _ _ c3) c3, kcell kk (World.block_lt_of_cell? _ _ c4) c4, kcell kk (World.block_lt_of_cell? _ _ c5) c5, kcell kk (World.block_lt_of_cell? _ _ c6) c6, kcell kk (World.block_lt_of_cell? _ _ c7) c7, kcell kk (World.block_lt_of_cell? _ _ c8) c8, kcell kk (World.block_lt_of_cell? _ _ c9) c9, kcell kk (World.block_lt_of_cell? _ _ c10) c10, kcell kk (World.block_lt_of_cell? _ _ c11) c11⟩)
 clear SK SL y00 y01 y02 y03 y04 y05 y06 y10 y11 y12 y13 y14 y15 y16 y20 y21 y22 y23 y24 y25 y26 c0 c1 c2 c3 c4 c5 c6 c7 c8 c9 c10 c11 c12 c13 c14 c15 c16 c17
 have SK := SK2
 clear SK2
 refine wp_region_noPanic ?_
 refine wp_region_held_drew (S := fun w' => Below Z.heap.size Z w' ∧ w'.cell? ⟨g0, 0, none⟩ = some (.int .i64 1) ∧ w'.cell? ⟨g0, 1, none⟩ = some (.bool false) ∧ w'.cell? ⟨g0, 2, none⟩ = some (.int .i64 0) ∧ w'.cell? ⟨g0, 3, none⟩ = some (.int .i64 0) ∧ w'.cell? ⟨g0, 4, none⟩ = some (.string ⟨#[]⟩) ∧ w'.cell? ⟨g0, 5, none⟩ = some (.slice a0 0 d0) ∧ w'.cell? ⟨g1, 0, none⟩ = some (.int .i64 1) ∧ w'.cell? ⟨g1, 1, none⟩ = some (.bool false) ∧ w'.cell? ⟨g1, 2, none⟩ = some (.int .i64 0) ∧ w'.cell? ⟨g1, 3, none⟩ = some (.int .i64 0) ∧ w'.cell? ⟨g1, 4, none⟩ = some (.string ⟨#[]⟩) ∧ w'.cell? ⟨g1, 5, none⟩ = some (.slice a1 0 d1) ∧ w'.cell? ⟨g2, 0, none⟩ = some (.int .i64 1) ∧ w'.cell? ⟨g2, 1, none⟩ = some (.bool true) ∧ w'.cell? ⟨g2, 2, none⟩ = some (.int .i64 0) ∧ w'.cell? ⟨g2, 3, none⟩ = some (.int .i64 0) ∧ w'.cell? ⟨g2, 4, none⟩ = some (.string ⟨#[]⟩) ∧ w'.cell? ⟨g2, 5, none⟩ = some (.slice a2 0 d2) ∧ w'.cell? ⟨w.heap.size, 0, none⟩ = some (.int .i64 1) ∧ w'.cell? ⟨w.heap.size, 1, none⟩ = some (.bool false) ∧ w'.cell? ⟨w.heap.size, 2, none⟩ = some (.int .i64 0) ∧ w'.cell? ⟨w.heap.size, 3, none⟩ = some (.int .i64 0) ∧ w'.cell? ⟨w.heap.size, 4, none⟩ = some (.string ⟨#[]⟩) ∧ w'.cell? ⟨w.heap.size, 5, none⟩ = some (.slice none 0 0) ∧ w'.cell? ⟨w.heap.size, 6, none⟩ = some (.int .i64 1) ∧ w'.cell? ⟨w.heap.size, 7, none⟩ = some (.bool true) ∧ w'.cell? ⟨w.heap.size, 8, none⟩ = some (.int .i64 0) ∧ w'.cell? ⟨w.heap.size, 9, none⟩ = some (.int .i64 0) ∧ w'.cell? ⟨w.heap.size, 10, none⟩ = some (.string ⟨#[]⟩) ∧ w'.cell? ⟨w.heap.size, 11, none⟩ = some (.slice none 0 0)) (by kernel_rfl) ?hS0z (fun hHeld => ?_)
 case hS0z => exact unhide SK _ (Below.refl _ _).drew
 have jdz : Below Z.heap.size Z Z.drew := (Below.refl _ _).drew
 clear jdz
 generalize Z.drew = u0z at *
 refine takeA 0 (some 88) ?vz0x0 ⟨_, rfl, rfl, rfl, ?yz0x0⟩ ?_
 case yz0x0 => intro w0 hS; go_simp; try (with_reducible rfl)
 simp only [Act.put, List.setIfInBounds_toArray, List.set_cons_zero, List.set_cons_succ]
 refine takeA 1 (some 89) ?vz1x0 ⟨_, rfl, rfl, rfl, ?yz1x0⟩ ?_
 case yz1x0 => intro w0 hS; go_simp; try (with_reducible rfl)
 simp only [Act.put, List.setIfInBounds_toArray, List.set_cons_zero, List.set_cons_succ]
 refine takeA 2 (some 90) ?vz2x0 ⟨_, rfl, rfl, rfl, ?yz2x0⟩ ?_
 case yz2x0 => intro w0 hS; go_simp; try (with_reducible rfl)
 simp only [Act.put, List.setIfInBounds_toArray, List.set_cons_zero, List.set_cons_succ]
 refine takeA 3 (some 91) ?vz3x0 ⟨_, rfl, rfl, rfl, ?yz3x0⟩ ?_
 case yz3x0 => intro w0 hS; go_simp; try (with_reducible rfl)
 simp only [Act.put, List.setIfInBounds_toArray, List.set_cons_zero, List.set_cons_succ]
 refine takeA 4 (some 92) ?vz4x0 ⟨_, rfl, rfl, rfl, ?yz4x0⟩ ?_
 case yz4x0 => intro w0 hS; go_simp; try (with_reducible rfl)
 simp only [Act.put, List.setIfInBounds_toArray, List.set_cons_zero, List.set_cons_succ]
 refine takeA 5 (some 93) ?vz5x0 ⟨_, rfl, rfl, rfl, ?yz5x0⟩ ?_
 case yz5x0 => intro w0 hS; go_simp; try (with_reducible rfl)
 simp only [Act.put, List.setIfInBounds_toArray, List.set_cons_zero, List.set_cons_succ]
 refine takeA 6 (some 94) ?vz6x0 ⟨_, rfl, rfl, rfl, ?yz6x0⟩ ?_
 case yz6x0 => intro w0 hS; go_simp; try (with_reducible rfl)
 simp only [Act.put, List.setIfInBounds_toArray, List.set_cons_zero, List.set_cons_succ]
 refine takeA 7 (some 95) ?vz7x0 ⟨_, rfl, rfl, rfl, ?yz7x0⟩ ?_
 case yz7x0 => intro w0 hS; (try dsimp only at hS); go_simp; try (with_reducible rfl)
 simp only [Act.put, List.setIfInBounds_toArray, List.set_cons_zero, List.set_cons_succ]
 refine takeA 8 (some 96) ?vz8x0 ⟨_, rfl, rfl, rfl, ?yz8x0⟩ ?_
 case yz8x0 => intro w0 hS; go_simp; try (with_reducible rfl)
 simp only [Act.put, List.setIfInBounds_toArray, List.set_cons_zero, List.set_cons_succ]
 refine takeA 9 (some 97) ?vz9x0 ⟨_, rfl, rfl, rfl, ?yz9x0⟩ ?_
 case yz9x0 => intro w0 hS; go_simp; try (with_reducible rfl)
 simp only [Act.put, List.setIfInBounds_toArray, List.set_cons_zero, List.set_cons_succ]
 refine takeA 10 (some 98) ?vz10x0 ⟨_, rfl, rfl, rfl, ?yz10x0⟩ ?_
 case yz10x0 => intro w0 hS; go_simp; try (with_reducible rfl)
 simp only [Act.put, List.setIfInBounds_toArray, List.set_cons_zero, List.set_cons_succ]
 refine takeA 11 (some 99) ?vz11x0 ⟨_, rfl, rfl, rfl, ?yz11x0⟩ ?_
 case yz11x0 => intro w0 hS; (try dsimp only at hS); go_simp; try (with_reducible rfl)
 simp only [Act.put, List.setIfInBounds_toArray, List.set_cons_zero, List.set_cons_succ]
 refine wpAnyH_ready (rs := [12]) (by kernel_rfl) (by simp) ?_
 refine AllReadyH.cons rfl (fun K0 hK0 => ?_) AllReadyH.nil
 go_simp
 refine (slf_same 1 false 0 0 ⟨#[]⟩ a0 d0 kid0 (unhide HT0) _).mono ?_
 rintro e u1z ⟨rfl, j1z⟩
 go_wp2_with fail
 refine hK0.out _ _ ?hS1z (fun hHeld1 => ?_)
 case hS1z => exact unhide SK _ (keep_call hHeld j1z)
 clear hK0 K0
 clear j1z
 clear hHeld 
 have hHeld := hHeld1
 clear hHeld1
 try simp only [Act.put, List.setIfInBounds_toArray, List.set_cons_zero, List.set_cons_succ]
 refine takeA 13 (some 101) ?vz13x1 ⟨_, rfl, rfl, rfl, ?yz13x1⟩ ?_
 case yz13x1 => intro w0 hS; go_simp; try (with_reducible rfl)
 simp only [Act.put, List.setIfInBounds_toArray, List.set_cons_zero, List.set_cons_succ]
 refine takeA 14 (some 102) ?vz14x1 ⟨_, rfl, rfl, rfl, ?yz14x1⟩ ?_
 case yz14x1 => intro w0 hS; go_simp; try (with_reducible rfl)
 simp only [Act.put, List.setIfInBounds_toArray, List.set_cons_zero, List.set_cons_succ]
 refine takeA 15 (some 103) ?vz15x1 ⟨_, rfl, rfl, rfl, ?yz15x1⟩ ?_
 case yz15x1 => intro w0 hS; (try dsimp only at hS); go_simp; try (with_reducible rfl)
 simp only [Act.put, List.setIfInBounds_toArray, List.set_cons_zero, List.set_cons_succ]
 refine takeA 16 (some 104) ?vz16x1 ⟨_, rfl, rfl, rfl, ?yz16x1⟩ ?_
 case yz16x1 => intro w0 hS; go_simp; try (with_reducible rfl)
 simp only [Act.put, List.setIfInBounds_toArray, List.set_cons_zero, List.set_cons_succ]
 refine takeA 17 (some 105) ?vz17x1 ⟨_, rfl, rfl, rfl, ?yz17x1⟩ ?_
 case yz17x1 => intro w0 hS; go_simp; try (with_reducible rfl)
 simp only [Act.put, List.setIfInBounds_toArray, List.set_cons_zero, List.set_cons_succ]
 refine takeA 18 (some 106) ?vz18x1 ⟨_, rfl, rfl, rfl, ?yz18x1⟩ ?_
 case yz18x1 => intro w0 hS; go_simp; try (with_reducible rfl)
 simp only [Act.put, List.setIfInBounds_toArray, List.set_cons_zero, List.set_cons_succ]
 refine takeA 19 (some 107) ?vz19x1 ⟨_, rfl, rfl, rfl, ?yz19x1⟩ ?_
 case yz19x1 => intro w0 hS; (try dsimp only at hS); go_simp; try (with_reducible rfl)
 simp only [Act.put, List.setIfInBounds_toArray, List.set_cons_zero, List.set_cons_succ]
 refine wpAnyH_ready (rs := [20]) (by kernel_rfl) (by simp) ?_
 refine AllReadyH.cons rfl (fun K0 hK0 => ?_) AllReadyH.nil
 go_simp
 refine (slf_same 1 false 0 0 ⟨#[]⟩ a1 d1 kid1 (unhide HT1) _).mono ?_
 rintro e u2z ⟨rfl, j2z⟩
 go_wp2_with fail
 refine hK0.out _ _ ?hS2z (fun hHeld1 => ?_)
 case hS2z => exact unhide SK _ (keep_call hHeld j2z)
 clear hK0 K0
 clear j2z
 clear hHeld 
 have hHeld := hHeld1
 clear hHeld1
 try simp only [Act.put, List.setIfInBounds_toArray, List.set_cons_zero, List.set_cons_succ]
 refine takeA 21 (some 109) ?vz21x2 ⟨_, rfl, rfl, rfl, ?yz21x2⟩ ?_
 case yz21x2 => intro w0 hS; go_simp; try (with_reducible rfl)
 simp only [Act.put, List.setIfInBounds_toArray, List.set_cons_zero, List.set_cons_succ]
 refine takeA 22 (some 110) ?vz22x2 ⟨_, rfl, rfl, rfl, ?yz22x2⟩ ?_
 case yz22x2 => intro w0 hS; go_simp; try (with_reducible rfl)
 simp only [Act.put, List.setIfInBounds_toArray, List.set_cons_zero, List.set_cons_succ]
 refine takeA 23 (some 111) ?vz23x2 ⟨_, rfl, rfl, rfl, ?yz23x2⟩ ?_
 case yz23x2 => intro w0 hS; (try dsimp only at hS); go_simp; try (with_reducible rfl)
 simp only [Act.put, List.setIfInBounds_toArray, List.set_cons_zero, List.set_cons_succ]
 refine takeA 24 (some 112) ?vz24x2 ⟨_, rfl, rfl, rfl, ?yz24x2⟩ ?_
 case yz24x2 => intro w0 hS; go_simp; try (with_reducible rfl)
 simp only [Act.put, List.setIfInBounds_toArray, List.set_cons_zero, List.set_cons_succ]
 refine takeA 25 (some 113) ?vz25x2 ⟨_, rfl, rfl, rfl, ?yz25x2⟩ ?_
 case yz25x2 => intro w0 hS; go_simp; try (with_reducible rfl)
 simp only [Act.put, List.setIfInBounds_toArray, List.set_cons_zero, List.set_cons_succ]
 refine takeA 26 (some 114) ?vz26x2 ⟨_, rfl, rfl, rfl, ?yz26x2⟩ ?_
 case yz26x2 => intro w0 hS; go_simp; try (with_reducible rfl)
 simp only [Act.put, List.setIfInBounds_toArray, List.set_cons_zero, List.set_cons_succ]
 refine takeA 27 (some 115) ?vz27x2 ⟨_, rfl, rfl, rfl, ?yz27x2⟩ ?_
 case yz27x2 => intro w0 hS; (try dsimp only at hS); go_simp; try (with_reducible rfl)
 simp only [Act.put, List.setIfInBounds_toArray, List.set_cons_zero, List.set_cons_succ]
 refine wpAnyH_ready (rs := [28]) (by kernel_rfl) (by simp) ?_
 refine AllReadyH.cons rfl (fun K0 hK0 => ?_) AllReadyH.nil
 go_simp
 refine (slf_same 1 true 0 0 ⟨#[]⟩ a2 d2 kid2 (unhide HT2) _).mono ?_
 rintro e u3z ⟨rfl, j3z⟩
 go_wp2_with fail
 refine hK0.out _ _ ?hS3z (fun hHeld1 => ?_)
 case hS3z => exact unhide SK _ (keep_call hHeld j3z)
 clear hK0 K0
 clear j3z
 clear hHeld 
 have hHeld := hHeld1
 clear hHeld1
 try simp only [Act.put, List.setIfInBounds_toArray, List.set_cons_zero, List.set_cons_succ]
 refine takeA 29 (some 117) ?vz29x3 ⟨_, rfl, rfl, rfl, ?yz29x3⟩ ?_
 case yz29x3 => intro w0 hS; go_simp; try (with_reducible rfl)
 simp only [Act.put, List.setIfInBounds_toArray, List.set_cons_zero, List.set_cons_succ]
 refine takeA 30 (some 118) ?vz30x3 ⟨_, rfl, rfl, rfl, ?yz30x3⟩ ?_
 case yz30x3 => intro w0 hS; go_simp; try (with_reducible rfl)
 simp only [Act.put, List.setIfInBounds_toArray, List.set_cons_zero, List.set_cons_succ]
 refine wpAnyH_ready (rs := [31]) (by kernel_rfl) (by simp) ?_
 refine AllReadyH.cons rfl (fun K0 hK0 => ?_) AllReadyH.nil
 go_simp
 refine (eknown_any _).mono ?_
 rintro e u4z ⟨rfl, j4z⟩
 go_wp2_with fail
 refine hK0.out _ _ ?hS4z (fun hHeld1 => ?_)
 case hS4z => exact unhide SK _ (keep_call hHeld j4z)
 clear hK0 K0
 clear j4z
 clear hHeld 
 have hHeld := hHeld1
 clear hHeld1
 try simp only [Act.put, List.setIfInBounds_toArray, List.set_cons_zero, List.set_cons_succ]
 refine takeA 32 (some 120) ?vz32x4 ⟨_, rfl, rfl, rfl, ?yz32x4⟩ ?_
 case yz32x4 => intro w0 hS; go_simp; try (with_reducible rfl)
 simp only [Act.put, List.setIfInBounds_toArray, List.set_cons_zero, List.set_cons_succ]
 refine takeA 33 (some 4) ?vz33x4 ⟨_, rfl, rfl, rfl, ?yz33x4⟩ ?_
 case yz33x4 => intro w0 hS; go_simp; try (with_reducible rfl)
 simp only [Act.put, List.setIfInBounds_toArray, List.set_cons_zero, List.set_cons_succ]
 refine wpAnyH_done (by kernel_rfl) ?_ _
 refine NoPanic.normal ?_
 have BQ := hHeld.1
 clear hHeld
 go_wp2_with fail
 go_ret
 exact ⟨rfl, bstep b0 (bstep BY BQ)⟩

set_option maxRecDepth 10000 in
theorem three_01 (w : World) : Calls Tryz.prog 8 #[.int .i64 0, .int .i64 1] w fun e w' => e = .returned (.bool true) ∧ Below w.heap.size w w' := by
 have TD0 := hide (fun a9 w h => thr_TD thL0 (by decide) th_calc0 (booV false) (booV true) (ok_boo _) (ok_boo _) (boo_bareE _) (boo_bareE _) _ th_ev0_01 a9 w h)
 unfold thL0 at TD0
 have TD1 := hide (fun a9 w h => thr_TD thL1 (by decide) th_calc1 (booV false) (booV true) (ok_boo _) (ok_boo _) (boo_bareE _) (boo_bareE _) _ th_ev1_01 a9 w h)
 unfold thL1 at TD1
 have TD2 := hide (fun a9 w h => thr_TD thL2 (by decide) th_calc2 (booV false) (booV true) (ok_boo _) (ok_boo _) (boo_bareE _) (boo_bareE _) _ th_ev2_01 a9 w h)
 unfold thL2 at TD2
 have b0 := below1 w (Obj.cells #[.int .i64 1, .bool false, .int .i64 0, .int .i64 0, .string ⟨#[]⟩, .slice none 0 0, .int .i64 1, .bool true, .int .i64 0, .int .i64 0, .string ⟨#[]⟩, .slice none 0 0, .int .i64 0, .bool false, .int .i64 0, .int .i64 0, .string ⟨#[]⟩, .slice none 0 0] 32)
 obtain ⟨c0, c1, c2, c3, c4, c5, c6, c7, c8, c9, c10, c11, c12, c13, c14, c15, c16, c17⟩ := thr_cells w
 have z0 : (w.alloc (Obj.cells #[.int .i64 1, .bool false, .int .i64 0, .int .i64 0, .string ⟨#[]⟩, .slice none 0 0, .int .i64 1, .bool true, .int .i64 0, .int .i64 0, .string ⟨#[]⟩, .slice none 0 0, .int .i64 0, .bool false, .int .i64 0, .int .i64 0, .string ⟨#[]⟩, .slice none 0 0] 32)).heap.size = w.heap.size + 1 := by simp
 go_enter Tryz.func8, Tryz.ntmps8
 go_wp2_with fail
 generalize w.alloc (Obj.cells #[.int .i64 1, .bool false, .int .i64 0, .int .i64 0, .string ⟨#[]⟩, .slice none 0 0, .int .i64 1, .bool true, .int .i64 0, .int .i64 0, .string ⟨#[]⟩, .slice none 0 0, .int .i64 0, .bool false, .int .i64 0, .int .i64 0, .string ⟨#[]⟩, .slice none 0 0] 32) = V at *
 have SL : Hid (∀ w', Below V.heap.size V w' → (w'.cell? ⟨w.heap.size, 0, none⟩ = some (.int .i64 1) ∧ w'.cell? ⟨w.heap.size, 1, none⟩ = some (.bool false) ∧ w'.cell? ⟨w.heap.size, 2, none⟩ = some (.int .i64 0) ∧ w'.cell? ⟨w.heap.size, 3, none⟩ = some (.int .i64 0) ∧ w'.cell? ⟨w.heap.size, 4, none⟩ = some (.string ⟨#[]⟩) ∧ w'.cell? ⟨w.heap.size, 5, none⟩ = some (.slice none 0 0) ∧ w'.cell? ⟨w.heap.size, 6, none⟩ = some (.int .i64 1) ∧ w'.cell? ⟨w.heap.size, 7, none⟩ = some (.bool true) ∧ w'.cell? ⟨w.heap.size, 8, none⟩ = some (.int .i64 0) ∧ w'.cell? ⟨w.heap.size, 9, none⟩ = some (.int .i64 0) ∧ w'.cell? ⟨w.heap.size, 10, none⟩ = some (.string ⟨#[]⟩) ∧ w'.cell? ⟨w.heap.size, 11, none⟩ = some (.slice none 0 0) ∧ w'.cell? ⟨w.heap.size, 12, none⟩ = some (.int .i64 0) ∧ w'.cell? ⟨w.heap.size, 13, none⟩ = some (.bool false) ∧ w'.cell? ⟨w.heap.size, 14, none⟩ = some (.int .i64 0) ∧ w'.cell? ⟨w.heap.size, 15, none⟩ = some (.int .i64 0) ∧ w'.cell? ⟨w.heap.size, 16, none⟩ = some (.string ⟨#[]⟩) ∧ w'.cell? ⟨w.heap.size, 17, none⟩ = some (.slice none 0 0))) := hide (fun w' kk => ⟨kcell kk (World.block_lt_of_cell? _ _ c0) c0, kcell kk (World.block_lt_of_cell? _ _ c1) c1, kcell kk (World.block_lt_of_cell? _ _ c2) c2, kcell kk (World.block_lt_of_cell? _ _ c3) c3, kcell kk (World.block_lt_of_cell? _ _ c4) c4, kcell kk (World.block_lt_of_cell? _ _ c5) c5, kcell kk (World.block_lt_of_cell? _ _ c6) c6, kcell kk (World.block_lt_of_cell? _ _ c7) c7, kcell kk (World.block_lt_of_cell? _ _ c8) c8, kcell kk (World.block_lt_of_cell? _ _ c9) c9, kcell kk (World.block_lt_of_cell? _ _ c10) c10, kcell kk (World.block_lt_of_cell? _ _ c11) c11, kcell kk (World.block_lt_of_cell? _ _ c12) c12, kcell kk (World.block_lt_of_cell? _ _ c13) c13, kcell kk (World.block_lt_of_cell? _ _ c14) c14, kcell kk (World.block_lt_of_cell? _ _ c15) c15, kcell kk (World.block_lt_of_cell? _ _ c16) c16, kcell kk (World.block_lt_of_cell? _ _ c17) c17⟩)
 have SK : Hid (∀ w', Below V.heap.size V w' → (Below V.heap.size V w' ∧ w'.cell? ⟨w.heap.size, 0, none⟩ = some (.int .i64 1) ∧ w'.cell? ⟨w.heap.size, 1, none⟩ = some (.bool false) ∧ w'.cell? ⟨w.heap.size, 2, none⟩ = some (.int .i64 0) ∧ w'.cell? ⟨w.heap.size, 3, none⟩ = some (.int .i64 0) ∧ w'.cell? ⟨w.heap.size, 4, none⟩ = some (.string ⟨#[]⟩) ∧ w'.cell? ⟨w.heap.size, 5, none⟩ = some (.slice none 0 0) ∧ w'.cell? ⟨w.heap.size, 6, none⟩ = some (.int .i64 1) ∧ w'.cell? ⟨w.heap.size, 7, none⟩ = some (.bool true) ∧ w'.cell? ⟨w.heap.size, 8, none⟩ = some (.int .i64 0) ∧ w'.cell? ⟨w.heap.size, 9, none⟩ = some (.int .i64 0) ∧ w'.cell? ⟨w.heap.size, 10, none⟩ = some (.string ⟨#[]⟩) ∧ w'.cell? ⟨w.heap.size, 11, none⟩ = some (.slice none 0 0))) := hide (fun w' kk => ⟨kk, kcell kk (World.block_lt_of_cell? _ _ c0) c0, kcell kk (World.block_lt_of_cell? _ _ c1) c1, kcell kk (World.block_lt_of_cell? _ _ c2) c2, kcell kk (World.block_lt_of_cell? _ _ c3) c3, kcell kk (World.block_lt_of_cell? _ _ c4) c4, kcell kk (World.block_lt_of_cell? _ _ c5) c5, kcell kk (World.block_lt_of_cell? _ _ c6) c6, kcell kk (World.block_lt_of_cell? _ _ c7) c7, kcell kk (World.block_lt_of_cell? _ _ c8) c8, kcell kk (World.block_lt_of_cell? _ _ c9) c9, kcell kk (World.block_lt_of_cell? _ _ c10) c10, kcell kk (World.block_lt_of_cell? _ _ c11) c11⟩)
 clear c0 c1 c2 c3 c4 c5 c6 c7 c8 c9 c10 c11 c12 c13 c14 c15 c16 c17
 refine wp_region_noPanic ?_
 refine wp_region_held_drew (S := fun w' => Below V.heap.size V w' ∧ w'.cell? ⟨w.heap.size, 0, none⟩ = some (.int .i64 1) ∧ w'.cell? ⟨w.heap.size, 1, none⟩ = some (.bool false) ∧ w'.cell? ⟨w.heap.size, 2, none⟩ = some (.int .i64 0) ∧ w'.cell? ⟨w.heap.size, 3, none⟩ = some (.int .i64 0) ∧ w'.cell? ⟨w.heap.size, 4, none⟩ = some (.string ⟨#[]⟩) ∧ w'.cell? ⟨w.heap.size, 5, none⟩ = some (.slice none 0 0) ∧ w'.cell? ⟨w.heap.size, 6, none⟩ = some (.int .i64 1) ∧ w'.cell? ⟨w.heap.size, 7, none⟩ = some (.bool true) ∧ w'.cell? ⟨w.heap.size, 8, none⟩ = some (.int .i64 0) ∧ w'.cell? ⟨w.heap.size, 9, none⟩ = some (.int .i64 0) ∧ w'.cell? ⟨w.heap.size, 10, none⟩ = some (.string ⟨#[]⟩) ∧ w'.cell? ⟨w.heap.size, 11, none⟩ = some (.slice none 0 0)) (by kernel_rfl) ?hS0a (fun hHeld => ?_)
 case hS0a => exact unhide SK _ (Below.refl _ _).drew
 have jda : Below V.heap.size V V.drew := (Below.refl _ _).drew
 clear jda
 generalize V.drew = u0a at *
 refine takeA 0 (some 34) ?va0x0 ⟨_, rfl, rfl, rfl, ?ya0x0⟩ ?_
 case ya0x0 => intro w0 hS; go_simp; try (with_reducible rfl)
 simp only [Act.put, List.setIfInBounds_toArray, List.set_cons_zero, List.set_cons_succ]
 refine takeA 1 (some 35) ?va1x0 ⟨_, rfl, rfl, rfl, ?ya1x0⟩ ?_
 case ya1x0 => intro w0 hS; go_simp; try (with_reducible rfl)
 simp only [Act.put, List.setIfInBounds_toArray, List.set_cons_zero, List.set_cons_succ]
 refine takeA 2 (some 36) ?va2x0 ⟨_, rfl, rfl, rfl, ?ya2x0⟩ ?_
 case ya2x0 => intro w0 hS; go_simp; try (with_reducible rfl)
 simp only [Act.put, List.setIfInBounds_toArray, List.set_cons_zero, List.set_cons_succ]
 refine takeA 3 (some 37) ?va3x0 ⟨_, rfl, rfl, rfl, ?ya3x0⟩ ?_
 case ya3x0 => intro w0 hS; (try dsimp only at hS); go_simp; try (with_reducible rfl)
 simp only [Act.put, List.setIfInBounds_toArray, List.set_cons_zero, List.set_cons_succ]
 refine takeA 4 (some 38) ?va4x0 ⟨_, rfl, rfl, rfl, ?ya4x0⟩ ?_
 case ya4x0 => intro w0 hS; go_simp; try (with_reducible rfl)
 simp only [Act.put, List.setIfInBounds_toArray, List.set_cons_zero, List.set_cons_succ]
 refine takeA 5 (some 39) ?va5x0 ⟨_, rfl, rfl, rfl, ?ya5x0⟩ ?_
 case ya5x0 => intro w0 hS; go_simp; try (with_reducible rfl)
 simp only [Act.put, List.setIfInBounds_toArray, List.set_cons_zero, List.set_cons_succ]
 refine takeA 6 (some 40) ?va6x0 ⟨_, rfl, rfl, rfl, ?ya6x0⟩ ?_
 case ya6x0 => intro w0 hS; go_simp; try (with_reducible rfl)
 simp only [Act.put, List.setIfInBounds_toArray, List.set_cons_zero, List.set_cons_succ]
 refine takeA 7 (some 41) ?va7x0 ⟨_, rfl, rfl, rfl, ?ya7x0⟩ ?_
 case ya7x0 => intro w0 hS; go_simp; try (with_reducible rfl)
 simp only [Act.put, List.setIfInBounds_toArray, List.set_cons_zero, List.set_cons_succ]
 refine takeA 8 (some 42) ?va8x0 ⟨_, rfl, rfl, rfl, ?ya8x0⟩ ?_
 case ya8x0 => intro w0 hS; (try dsimp only at hS); go_simp; try (with_reducible rfl)
 simp only [Act.put, List.setIfInBounds_toArray, List.set_cons_zero, List.set_cons_succ]
 refine takeA 9 (some 43) ?va9x0 ⟨_, rfl, rfl, rfl, ?ya9x0⟩ ?_
 case ya9x0 => intro w0 hS; go_simp; try (with_reducible rfl)
 simp only [Act.put, List.setIfInBounds_toArray, List.set_cons_zero, List.set_cons_succ]
 refine wpAnyH_ready (rs := [10]) (by kernel_rfl) (by simp) ?_
 refine AllReadyH.cons rfl (fun K0 hK0 => ?_) AllReadyH.nil
 go_simp
 refine hK0.out _ _ ?hS1a (fun hHeld1 => ?_)
 case hS1a => exact unhide SK _ (keep_alloc hHeld _)
 clear hK0 K0
 have j1a := below1 u0a (Obj.cells #[.string ⟨#[97]⟩, .int .i64 1, .bool false, .int .i64 0, .int .i64 0, .string ⟨#[]⟩, .slice none 0 0, .string ⟨#[98]⟩, .int .i64 1, .bool true, .int .i64 0, .int .i64 0, .string ⟨#[]⟩, .slice none 0 0] 48)
 have z1a : V.heap.size ≤ u0a.heap.size := hHeld.1.size
 have EN1a := hide (env2 (w := u0a.alloc (Obj.cells #[.string ⟨#[97]⟩, .int .i64 1, .bool false, .int .i64 0, .int .i64 0, .string ⟨#[]⟩, .slice none 0 0, .string ⟨#[98]⟩, .int .i64 1, .bool true, .int .i64 0, .int .i64 0, .string ⟨#[]⟩, .slice none 0 0] 48)) (g := u0a.heap.size) ⟨#[97]⟩ ⟨#[98]⟩ _ _ (boo_in _ _) (boo_in _ _) (by go_simp) (fun j hj => by match j, hj with | 0, _ => (go_simp; rfl) | 1, _ => (go_simp; rfl) | 2, _ => (go_simp; rfl) | 3, _ => (go_simp; rfl) | 4, _ => (go_simp; rfl) | 5, _ => (go_simp; rfl)) (by go_simp) (fun j hj => by match j, hj with | 0, _ => (go_simp; rfl) | 1, _ => (go_simp; rfl) | 2, _ => (go_simp; rfl) | 3, _ => (go_simp; rfl) | 4, _ => (go_simp; rfl) | 5, _ => (go_simp; rfl)))
 generalize u0a.alloc (Obj.cells #[.string ⟨#[97]⟩, .int .i64 1, .bool false, .int .i64 0, .int .i64 0, .string ⟨#[]⟩, .slice none 0 0, .string ⟨#[98]⟩, .int .i64 1, .bool true, .int .i64 0, .int .i64 0, .string ⟨#[]⟩, .slice none 0 0] 48) = u1a at *
 generalize u0a.heap.size = g1a at *
 clear j1a
 clear hHeld 
 have hHeld := hHeld1
 clear hHeld1
 try simp only [Act.put, List.setIfInBounds_toArray, List.set_cons_zero, List.set_cons_succ]
 refine takeA 11 (some 6) ?va11x1 ⟨_, rfl, rfl, rfl, ?ya11x1⟩ ?_
 case ya11x1 => intro w0 hS; go_simp; try (with_reducible rfl)
 simp only [Act.put, List.setIfInBounds_toArray, List.set_cons_zero, List.set_cons_succ]
 refine wpAnyH_done (by kernel_rfl) ?_ _
 refine NoPanic.normal ?_
 have EN := EN1a
 have BZ := hHeld.1
 clear hHeld

 go_wp2_with fail
 refine (unhide TD0 _ _ (unhide EN)).mono ?_
 rintro e v1 ⟨⟨v, rfl, T, rfl, hT, hTl, hTb⟩, k1⟩
 obtain ⟨a0, d0, kid0, rfl⟩ := leaf_form (k := 1) (b := false) (m := 0) (s := 0) (t := ⟨#[]⟩) hT hTb
 have HT0 := hide hT
 have EN1 := hide (((unhide EN).below k1).below (below1 v1 (Obj.cells #[.int .i64 1, .bool false, .int .i64 0, .int .i64 0, .string ⟨#[]⟩, .slice a0 0 d0] 32)))
 have BZ1 := bstep (bstep BZ k1) (below1 v1 (Obj.cells #[.int .i64 1, .bool false, .int .i64 0, .int .i64 0, .string ⟨#[]⟩, .slice a0 0 d0] 32))
 have X0_0 := six_new v1 1 false 0 0 ⟨#[]⟩ a0 0 d0
 clear hT hTl hTb k1 BZ EN TD0 
 dsimp only [VT.val]
 go_wp2_with fail
 generalize v1.alloc (Obj.cells #[.int .i64 1, .bool false, .int .i64 0, .int .i64 0, .string ⟨#[]⟩, .slice a0 0 d0] 32) = y1 at *
 generalize v1.heap.size = g0 at *
 refine (unhide TD1 _ _ (unhide EN1)).mono ?_
 rintro e v2 ⟨⟨v, rfl, T, rfl, hT, hTl, hTb⟩, k1⟩
 obtain ⟨a1, d1, kid1, rfl⟩ := leaf_form (k := 1) (b := true) (m := 0) (s := 0) (t := ⟨#[]⟩) hT hTb
 have HT1 := hide hT
 have EN2 := hide (((unhide EN1).below k1).below (below1 v2 (Obj.cells #[.int .i64 1, .bool true, .int .i64 0, .int .i64 0, .string ⟨#[]⟩, .slice a1 0 d1] 32)))
 have BZ2 := bstep (bstep BZ1 k1) (below1 v2 (Obj.cells #[.int .i64 1, .bool true, .int .i64 0, .int .i64 0, .string ⟨#[]⟩, .slice a1 0 d1] 32))
 have X0_1 := (X0_0.below k1).below (below1 v2 (Obj.cells #[.int .i64 1, .bool true, .int .i64 0, .int .i64 0, .string ⟨#[]⟩, .slice a1 0 d1] 32))
 have X1_1 := six_new v2 1 true 0 0 ⟨#[]⟩ a1 0 d1
 clear hT hTl hTb k1 BZ1 EN1 TD1 X0_0
 dsimp only [VT.val]
 go_wp2_with fail
 generalize v2.alloc (Obj.cells #[.int .i64 1, .bool true, .int .i64 0, .int .i64 0, .string ⟨#[]⟩, .slice a1 0 d1] 32) = y2 at *
 generalize v2.heap.size = g1 at *
 refine (unhide TD2 _ _ (unhide EN2)).mono ?_
 rintro e v3 ⟨⟨v, rfl, T, rfl, hT, hTl, hTb⟩, k1⟩
 obtain ⟨a2, d2, kid2, rfl⟩ := leaf_form (k := 1) (b := true) (m := 0) (s := 0) (t := ⟨#[]⟩) hT hTb
 have HT2 := hide hT
 have EN3 := hide (((unhide EN2).below k1).below (below1 v3 (Obj.cells #[.int .i64 1, .bool true, .int .i64 0, .int .i64 0, .string ⟨#[]⟩, .slice a2 0 d2] 32)))
 have BZ3 := bstep (bstep BZ2 k1) (below1 v3 (Obj.cells #[.int .i64 1, .bool true, .int .i64 0, .int .i64 0, .string ⟨#[]⟩, .slice a2 0 d2] 32))
 have X0_2 := (X0_1.below k1).below (below1 v3 (Obj.cells #[.int .i64 1, .bool true, .int .i64 0, .int .i64 0, .string ⟨#[]⟩, .slice a2 0 d2] 32))
 have X1_2 := (X1_1.below k1).below (below1 v3 (Obj.cells #[.int .i64 1, .bool true, .int .i64 0, .int .i64 0, .string ⟨#[]⟩, .slice a2 0 d2] 32))
 have X2_2 := six_new v3 1 true 0 0 ⟨#[]⟩ a2 0 d2
 clear hT hTl hTb k1 BZ2 EN2 TD2 X0_1 X1_1
 dsimp only [VT.val]
 clear EN3
 go_upto_region 18 with fail
 have BY := bstep BZ3 (below1 _ (Obj.cells #[.int .i64 1, .int .i64 0, .int .i64 2] 3))
 have Y0 := X0_2.below (below1 _ (Obj.cells #[.int .i64 1, .int .i64 0, .int .i64 2] 3))
 have Y1 := X1_2.below (below1 _ (Obj.cells #[.int .i64 1, .int .i64 0, .int .i64 2] 3))
 have Y2 := X2_2.below (below1 _ (Obj.cells #[.int .i64 1, .int .i64 0, .int .i64 2] 3))
 clear BZ3 X0_2 X1_2 X2_2
 generalize (v3.alloc (Obj.cells #[.int .i64 1, .bool true, .int .i64 0, .int .i64 0, .string ⟨#[]⟩, .slice a2 0 d2] 32)).alloc (Obj.cells #[.int .i64 1, .int .i64 0, .int .i64 2] 3) = Z at *
 generalize v3.heap.size = g2 at *
 obtain ⟨y00, y01, y02, y03, y04, y05, y06⟩ := Y0
 obtain ⟨y10, y11, y12, y13, y14, y15, y16⟩ := Y1
 obtain ⟨y20, y21, y22, y23, y24, y25, y26⟩ := Y2
 simp only [Nat.zero_add] at y01 y02 y03 y04 y05 y06 y11 y12 y13 y14 y15 y16 y21 y22 y23 y24 y25 y26
 obtain ⟨c0, c1, c2, c3, c4, c5, c6, c7, c8, c9, c10, c11, c12, c13, c14, c15, c16, c17⟩ := unhide SL _ BY
 have SK2 : Hid (∀ w', Below Z.heap.size Z w' → (Below Z.heap.size Z w' ∧ w'.cell? ⟨g0, 0, none⟩ = some (.int .i64 1) ∧ w'.cell? ⟨g0, 1, none⟩ = some (.bool false) ∧ w'.cell? ⟨g0, 2, none⟩ = some (.int .i64 0) ∧ w'.cell? ⟨g0, 3, none⟩ = some (.int .i64 0) ∧ w'.cell? ⟨g0, 4, none⟩ = some (.string ⟨#[]⟩) ∧ w'.cell? ⟨g0, 5, none⟩ = some (.slice a0 0 d0) ∧ w'.cell? ⟨g1, 0, none⟩ = some (.int .i64 1) ∧ w'.cell? ⟨g1, 1, none⟩ = some (.bool true) ∧ w'.cell? ⟨g1, 2, none⟩ = some (.int .i64 0) ∧ w'.cell? ⟨g1, 3, none⟩ = some (.int .i64 0) ∧ w'.cell? ⟨g1, 4, none⟩ = some (.string ⟨#[]⟩) ∧ w'.cell? ⟨g1, 5, none⟩ = some (.slice a1 0 d1) ∧ w'.cell? ⟨g2, 0, none⟩ = some (.int .i64 1) ∧ w'.cell? ⟨g2, 1, none⟩ = some (.bool true) ∧ w'.cell? ⟨g2, 2, none⟩ = some (.int .i64 0) ∧ w'.cell? ⟨g2, 3, none⟩ = some (.int .i64 0) ∧ w'.cell? ⟨g2, 4, none⟩ = some (.string ⟨#[]⟩) ∧ w'.cell? ⟨g2, 5, none⟩ = some (.slice a2 0 d2) ∧ w'.cell? ⟨w.heap.size, 0, none⟩ = some (.int .i64 1) ∧ w'.cell? ⟨w.heap.size, 1, none⟩ = some (.bool false) ∧ w'.cell? ⟨w.heap.size, 2, none⟩ = some (.int .i64 0) ∧ w'.cell? ⟨w.heap.size, 3, none⟩ = some (.int .i64 0) ∧ w'.cell? ⟨w.heap.size, 4, none⟩ = some (.string ⟨#[]⟩) ∧ w'.cell? ⟨w.heap.size, 5, none⟩ = some (.slice none 0 0) ∧ w'.cell? ⟨w.heap.size, 6, none⟩ = some (.int .i64 1) ∧ w'.cell? ⟨w.heap.size, 7, none⟩ = some (.bool true) ∧ w'.cell? ⟨w.heap.size, 8, none⟩ = some (.int .i64 0) ∧ w'.cell? ⟨w.heap.size, 9, none⟩ = some (.int .i64 0) ∧ w'.cell? ⟨w.heap.size, 10, none⟩ = some (.string ⟨#[]⟩) ∧ w'.cell? ⟨w.heap.size, 11, none⟩ = some (.slice none 0 0))) := hide (fun w' kk => ⟨kk, kcell kk (World.block_lt_of_cell? _ _ y01) y01, kcell kk (World.block_lt_of_cell? _ _ y02) y02, kcell kk (World.block_lt_of_cell? _ _ y03) y03, kcell kk (World.block_lt_of_cell? _ _ y04) y04, kcell kk (World.block_lt_of_cell? _ _ y05) y05, kcell kk (World.block_lt_of_cell? _ _ y06) y06, kcell kk (World.block_lt_of_cell? _ _ y11) y11, kcell kk (World.block_lt_of_cell? _ _ y12) y12, kcell kk (World.block_lt_of_cell? _ _ y13) y13, kcell kk (World.block_lt_of_cell? _ _ y14) y14, kcell kk (World.block_lt_of_cell? _ _ y15) y15, kcell kk (World.block_lt_of_cell? _ _ y16) y16, kcell kk (World.block_lt_of_cell? _ _ y21) y21, kcell kk (World.block_lt_of_cell? _ _ y22) y22, kcell kk (World.block_lt_of_cell? _ _ y23) y23, kcell kk (World.block_lt_of_cell? _ _ y24) y24, kcell kk (World.block_lt_of_cell? _ _ y25) y25, kcell kk (World.block_lt_of_cell? _ _ y26) y26, kcell kk (World.block_lt_of_cell? _ _ c0) c0, kcell kk (World.block_lt_of_cell? _ _ c1) c1, kcell kk (World.block_lt_of_cell? _ _ c2) c2, kcell kk (World.block_lt_of_cell? _ _ c3) c3, kcell kk (World.block_lt_of_cell? _ _ c4) c4, kcell kk (World.block_lt_of_cell? _ _ c5) c5, kcell kk (World.block_lt_of_cell? _ _ c6) c6, kcell kk (World.block_lt_of_cell? _ _ c7) c7, kcell kk (World.block_lt_of_cell? _ _ c8) c8, kcell kk (World.block_lt_of_cell? _ _ c9) c9, kcell kk (World.block_lt_of_cell? _ _ c10) c10, kcell kk (World.block_lt_of_cell? _ _ c11) c11⟩)
 clear SK SL y00 y01 y02 y03 y04 y05 y06 y10 y11 y12 y13 y14 y15 y16 y20 y21 y22 y23 y24 y25 y26 c0 c1 c2 c3 c4 c5 c6 c7 c8 c9 c10 c11 c12 c13 c14 c15 c16 c17
 have SK := SK2
 clear SK2
 refine wp_region_noPanic ?_
 refine wp_region_held_drew (S := fun w' => Below Z.heap.size Z w' ∧ w'.cell? ⟨g0, 0, none⟩ = some (.int .i64 1) ∧ w'.cell? ⟨g0, 1, none⟩ = some (.bool false) ∧ w'.cell? ⟨g0, 2, none⟩ = some (.int .i64 0) ∧ w'.cell? ⟨g0, 3, none⟩ = some (.int .i64 0) ∧ w'.cell? ⟨g0, 4, none⟩ = some (.string ⟨#[]⟩) ∧ w'.cell? ⟨g0, 5, none⟩ = some (.slice a0 0 d0) ∧ w'.cell? ⟨g1, 0, none⟩ = some (.int .i64 1) ∧ w'.cell? ⟨g1, 1, none⟩ = some (.bool true) ∧ w'.cell? ⟨g1, 2, none⟩ = some (.int .i64 0) ∧ w'.cell? ⟨g1, 3, none⟩ = some (.int .i64 0) ∧ w'.cell? ⟨g1, 4, none⟩ = some (.string ⟨#[]⟩) ∧ w'.cell? ⟨g1, 5, none⟩ = some (.slice a1 0 d1) ∧ w'.cell? ⟨g2, 0, none⟩ = some (.int .i64 1) ∧ w'.cell? ⟨g2, 1, none⟩ = some (.bool true) ∧ w'.cell? ⟨g2, 2, none⟩ = some (.int .i64 0) ∧ w'.cell? ⟨g2, 3, none⟩ = some (.int .i64 0) ∧ w'.cell? ⟨g2, 4, none⟩ = some (.string ⟨#[]⟩) ∧ w'.cell? ⟨g2, 5, none⟩ = some (.slice a2 0 d2) ∧ w'.cell? ⟨w.heap.size, 0, none⟩ = some (.int .i64 1) ∧ w'.cell? ⟨w.heap.size, 1, none⟩ = some (.bool false) ∧ w'.cell? ⟨w.heap.size, 2, none⟩ = some (.int .i64 0) ∧ w'.cell? ⟨w.heap.size, 3, none⟩ = some (.int .i64 0) ∧ w'.cell? ⟨w.heap.size, 4, none⟩ = some (.string ⟨#[]⟩) ∧ w'.cell? ⟨w.heap.size, 5, none⟩ = some (.slice none 0 0) ∧ w'.cell? ⟨w.heap.size, 6, none⟩ = some (.int .i64 1) ∧ w'.cell? ⟨w.heap.size, 7, none⟩ = some (.bool true) ∧ w'.cell? ⟨w.heap.size, 8, none⟩ = some (.int .i64 0) ∧ w'.cell? ⟨w.heap.size, 9, none⟩ = some (.int .i64 0) ∧ w'.cell? ⟨w.heap.size, 10, none⟩ = some (.string ⟨#[]⟩) ∧ w'.cell? ⟨w.heap.size, 11, none⟩ = some (.slice none 0 0)) (by kernel_rfl) ?hS0z (fun hHeld => ?_)
 case hS0z => exact unhide SK _ (Below.refl _ _).drew
 have jdz : Below Z.heap.size Z Z.drew := (Below.refl _ _).drew
 clear jdz
 generalize Z.drew = u0z at *
 refine takeA 0 (some 88) ?vz0x0 ⟨_, rfl, rfl, rfl, ?yz0x0⟩ ?_
 case yz0x0 => intro w0 hS; go_simp; try (with_reducible rfl)
 simp only [Act.put, List.setIfInBounds_toArray, List.set_cons_zero, List.set_cons_succ]
 refine takeA 1 (some 89) ?vz1x0 ⟨_, rfl, rfl, rfl, ?yz1x0⟩ ?_
 case yz1x0 => intro w0 hS; go_simp; try (with_reducible rfl)
 simp only [Act.put, List.setIfInBounds_toArray, List.set_cons_zero, List.set_cons_succ]
 refine takeA 2 (some 90) ?vz2x0 ⟨_, rfl, rfl, rfl, ?yz2x0⟩ ?_
 case yz2x0 => intro w0 hS; go_simp; try (with_reducible rfl)
 simp only [Act.put, List.setIfInBounds_toArray, List.set_cons_zero, List.set_cons_succ]
 refine takeA 3 (some 91) ?vz3x0 ⟨_, rfl, rfl, rfl, ?yz3x0⟩ ?_
 case yz3x0 => intro w0 hS; go_simp; try (with_reducible rfl)
 simp only [Act.put, List.setIfInBounds_toArray, List.set_cons_zero, List.set_cons_succ]
 refine takeA 4 (some 92) ?vz4x0 ⟨_, rfl, rfl, rfl, ?yz4x0⟩ ?_
 case yz4x0 => intro w0 hS; go_simp; try (with_reducible rfl)
 simp only [Act.put, List.setIfInBounds_toArray, List.set_cons_zero, List.set_cons_succ]
 refine takeA 5 (some 93) ?vz5x0 ⟨_, rfl, rfl, rfl, ?yz5x0⟩ ?_
 case yz5x0 => intro w0 hS; go_simp; try (with_reducible rfl)
 simp only [Act.put, List.setIfInBounds_toArray, List.set_cons_zero, List.set_cons_succ]
 refine takeA 6 (some 94) ?vz6x0 ⟨_, rfl, rfl, rfl, ?yz6x0⟩ ?_
 case yz6x0 => intro w0 hS; go_simp; try (with_reducible rfl)
 simp only [Act.put, List.setIfInBounds_toArray, List.set_cons_zero, List.set_cons_succ]
 refine takeA 7 (some 95) ?vz7x0 ⟨_, rfl, rfl, rfl, ?yz7x0⟩ ?_
 case yz7x0 => intro w0 hS; (try dsimp only at hS); go_simp; try (with_reducible rfl)
 simp only [Act.put, List.setIfInBounds_toArray, List.set_cons_zero, List.set_cons_succ]
 refine takeA 8 (some 96) ?vz8x0 ⟨_, rfl, rfl, rfl, ?yz8x0⟩ ?_
 case yz8x0 => intro w0 hS; go_simp; try (with_reducible rfl)
 simp only [Act.put, List.setIfInBounds_toArray, List.set_cons_zero, List.set_cons_succ]
 refine takeA 9 (some 97) ?vz9x0 ⟨_, rfl, rfl, rfl, ?yz9x0⟩ ?_
 case yz9x0 => intro w0 hS; go_simp; try (with_reducible rfl)
 simp only [Act.put, List.setIfInBounds_toArray, List.set_cons_zero, List.set_cons_succ]
 refine takeA 10 (some 98) ?vz10x0 ⟨_, rfl, rfl, rfl, ?yz10x0⟩ ?_
 case yz10x0 => intro w0 hS; go_simp; try (with_reducible rfl)
 simp only [Act.put, List.setIfInBounds_toArray, List.set_cons_zero, List.set_cons_succ]
 refine takeA 11 (some 99) ?vz11x0 ⟨_, rfl, rfl, rfl, ?yz11x0⟩ ?_
 case yz11x0 => intro w0 hS; (try dsimp only at hS); go_simp; try (with_reducible rfl)
 simp only [Act.put, List.setIfInBounds_toArray, List.set_cons_zero, List.set_cons_succ]
 refine wpAnyH_ready (rs := [12]) (by kernel_rfl) (by simp) ?_
 refine AllReadyH.cons rfl (fun K0 hK0 => ?_) AllReadyH.nil
 go_simp
 refine (slf_same 1 false 0 0 ⟨#[]⟩ a0 d0 kid0 (unhide HT0) _).mono ?_
 rintro e u1z ⟨rfl, j1z⟩
 go_wp2_with fail
 refine hK0.out _ _ ?hS1z (fun hHeld1 => ?_)
 case hS1z => exact unhide SK _ (keep_call hHeld j1z)
 clear hK0 K0
 clear j1z
 clear hHeld 
 have hHeld := hHeld1
 clear hHeld1
 try simp only [Act.put, List.setIfInBounds_toArray, List.set_cons_zero, List.set_cons_succ]
 refine takeA 13 (some 101) ?vz13x1 ⟨_, rfl, rfl, rfl, ?yz13x1⟩ ?_
 case yz13x1 => intro w0 hS; go_simp; try (with_reducible rfl)
 simp only [Act.put, List.setIfInBounds_toArray, List.set_cons_zero, List.set_cons_succ]
 refine takeA 14 (some 102) ?vz14x1 ⟨_, rfl, rfl, rfl, ?yz14x1⟩ ?_
 case yz14x1 => intro w0 hS; go_simp; try (with_reducible rfl)
 simp only [Act.put, List.setIfInBounds_toArray, List.set_cons_zero, List.set_cons_succ]
 refine takeA 15 (some 103) ?vz15x1 ⟨_, rfl, rfl, rfl, ?yz15x1⟩ ?_
 case yz15x1 => intro w0 hS; (try dsimp only at hS); go_simp; try (with_reducible rfl)
 simp only [Act.put, List.setIfInBounds_toArray, List.set_cons_zero, List.set_cons_succ]
 refine takeA 16 (some 104) ?vz16x1 ⟨_, rfl, rfl, rfl, ?yz16x1⟩ ?_
 case yz16x1 => intro w0 hS; go_simp; try (with_reducible rfl)
 simp only [Act.put, List.setIfInBounds_toArray, List.set_cons_zero, List.set_cons_succ]
 refine takeA 17 (some 105) ?vz17x1 ⟨_, rfl, rfl, rfl, ?yz17x1⟩ ?_
 case yz17x1 => intro w0 hS; go_simp; try (with_reducible rfl)
 simp only [Act.put, List.setIfInBounds_toArray, List.set_cons_zero, List.set_cons_succ]
 refine takeA 18 (some 106) ?vz18x1 ⟨_, rfl, rfl, rfl, ?yz18x1⟩ ?_
 case yz18x1 => intro w0 hS; go_simp; try (with_reducible rfl)
 simp only [Act.put, List.setIfInBounds_toArray, List.set_cons_zero, List.set_cons_succ]
 refine takeA 19 (some 107) ?vz19x1 ⟨_, rfl, rfl, rfl, ?yz19x1⟩ ?_
 case yz19x1 => intro w0 hS; (try dsimp only at hS); go_simp; try (with_reducible rfl)
 simp only [Act.put, List.setIfInBounds_toArray, List.set_cons_zero, List.set_cons_succ]
 refine wpAnyH_ready (rs := [20]) (by kernel_rfl) (by simp) ?_
 refine AllReadyH.cons rfl (fun K0 hK0 => ?_) AllReadyH.nil
 go_simp
 refine (slf_same 1 true 0 0 ⟨#[]⟩ a1 d1 kid1 (unhide HT1) _).mono ?_
 rintro e u2z ⟨rfl, j2z⟩
 go_wp2_with fail
 refine hK0.out _ _ ?hS2z (fun hHeld1 => ?_)
 case hS2z => exact unhide SK _ (keep_call hHeld j2z)
 clear hK0 K0
 clear j2z
 clear hHeld 
 have hHeld := hHeld1
 clear hHeld1
 try simp only [Act.put, List.setIfInBounds_toArray, List.set_cons_zero, List.set_cons_succ]
 refine takeA 21 (some 109) ?vz21x2 ⟨_, rfl, rfl, rfl, ?yz21x2⟩ ?_
 case yz21x2 => intro w0 hS; go_simp; try (with_reducible rfl)
 simp only [Act.put, List.setIfInBounds_toArray, List.set_cons_zero, List.set_cons_succ]
 refine takeA 22 (some 110) ?vz22x2 ⟨_, rfl, rfl, rfl, ?yz22x2⟩ ?_
 case yz22x2 => intro w0 hS; go_simp; try (with_reducible rfl)
 simp only [Act.put, List.setIfInBounds_toArray, List.set_cons_zero, List.set_cons_succ]
 refine takeA 23 (some 111) ?vz23x2 ⟨_, rfl, rfl, rfl, ?yz23x2⟩ ?_
 case yz23x2 => intro w0 hS; (try dsimp only at hS); go_simp; try (with_reducible rfl)
 simp only [Act.put, List.setIfInBounds_toArray, List.set_cons_zero, List.set_cons_succ]
 refine takeA 24 (some 112) ?vz24x2 ⟨_, rfl, rfl, rfl, ?yz24x2⟩ ?_
 case yz24x2 => intro w0 hS; go_simp; try (with_reducible rfl)
 simp only [Act.put, List.setIfInBounds_toArray, List.set_cons_zero, List.set_cons_succ]
 refine takeA 25 (some 113) ?vz25x2 ⟨_, rfl, rfl, rfl, ?yz25x2⟩ ?_
 case yz25x2 => intro w0 hS; go_simp; try (with_reducible rfl)
 simp only [Act.put, List.setIfInBounds_toArray, List.set_cons_zero, List.set_cons_succ]
 refine takeA 26 (some 114) ?vz26x2 ⟨_, rfl, rfl, rfl, ?yz26x2⟩ ?_
 case yz26x2 => intro w0 hS; go_simp; try (with_reducible rfl)
 simp only [Act.put, List.setIfInBounds_toArray, List.set_cons_zero, List.set_cons_succ]
 refine takeA 27 (some 115) ?vz27x2 ⟨_, rfl, rfl, rfl, ?yz27x2⟩ ?_
 case yz27x2 => intro w0 hS; (try dsimp only at hS); go_simp; try (with_reducible rfl)
 simp only [Act.put, List.setIfInBounds_toArray, List.set_cons_zero, List.set_cons_succ]
 refine wpAnyH_ready (rs := [28]) (by kernel_rfl) (by simp) ?_
 refine AllReadyH.cons rfl (fun K0 hK0 => ?_) AllReadyH.nil
 go_simp
 refine (slf_same 1 true 0 0 ⟨#[]⟩ a2 d2 kid2 (unhide HT2) _).mono ?_
 rintro e u3z ⟨rfl, j3z⟩
 go_wp2_with fail
 refine hK0.out _ _ ?hS3z (fun hHeld1 => ?_)
 case hS3z => exact unhide SK _ (keep_call hHeld j3z)
 clear hK0 K0
 clear j3z
 clear hHeld 
 have hHeld := hHeld1
 clear hHeld1
 try simp only [Act.put, List.setIfInBounds_toArray, List.set_cons_zero, List.set_cons_succ]
 refine takeA 29 (some 117) ?vz29x3 ⟨_, rfl, rfl, rfl, ?yz29x3⟩ ?_
 case yz29x3 => intro w0 hS; go_simp; try (with_reducible rfl)
 simp only [Act.put, List.setIfInBounds_toArray, List.set_cons_zero, List.set_cons_succ]
 refine takeA 30 (some 118) ?vz30x3 ⟨_, rfl, rfl, rfl, ?yz30x3⟩ ?_
 case yz30x3 => intro w0 hS; go_simp; try (with_reducible rfl)
 simp only [Act.put, List.setIfInBounds_toArray, List.set_cons_zero, List.set_cons_succ]
 refine wpAnyH_ready (rs := [31]) (by kernel_rfl) (by simp) ?_
 refine AllReadyH.cons rfl (fun K0 hK0 => ?_) AllReadyH.nil
 go_simp
 refine (eknown_any _).mono ?_
 rintro e u4z ⟨rfl, j4z⟩
 go_wp2_with fail
 refine hK0.out _ _ ?hS4z (fun hHeld1 => ?_)
 case hS4z => exact unhide SK _ (keep_call hHeld j4z)
 clear hK0 K0
 clear j4z
 clear hHeld 
 have hHeld := hHeld1
 clear hHeld1
 try simp only [Act.put, List.setIfInBounds_toArray, List.set_cons_zero, List.set_cons_succ]
 refine takeA 32 (some 120) ?vz32x4 ⟨_, rfl, rfl, rfl, ?yz32x4⟩ ?_
 case yz32x4 => intro w0 hS; go_simp; try (with_reducible rfl)
 simp only [Act.put, List.setIfInBounds_toArray, List.set_cons_zero, List.set_cons_succ]
 refine takeA 33 (some 4) ?vz33x4 ⟨_, rfl, rfl, rfl, ?yz33x4⟩ ?_
 case yz33x4 => intro w0 hS; go_simp; try (with_reducible rfl)
 simp only [Act.put, List.setIfInBounds_toArray, List.set_cons_zero, List.set_cons_succ]
 refine wpAnyH_done (by kernel_rfl) ?_ _
 refine NoPanic.normal ?_
 have BQ := hHeld.1
 clear hHeld
 go_wp2_with fail
 go_ret
 exact ⟨rfl, bstep b0 (bstep BY BQ)⟩

set_option maxRecDepth 10000 in
theorem three_02 (w : World) : Calls Tryz.prog 8 #[.int .i64 0, .int .i64 2] w fun e w' => e = .returned (.bool true) ∧ Below w.heap.size w w' := by
 have TD0 := hide (fun a9 w h => thr_TD thL0 (by decide) th_calc0 (booV false) (nilV) (ok_boo _) (ok_nil) (boo_bareE _) (nil_bareE) _ th_ev0_02 a9 w h)
 unfold thL0 at TD0
 have TD1 := hide (fun a9 w h => thr_TD thL1 (by decide) th_calc1 (booV false) (nilV) (ok_boo _) (ok_nil) (boo_bareE _) (nil_bareE) _ th_ev1_02 a9 w h)
 unfold thL1 at TD1
 have TD2 := hide (fun a9 w h => thr_TD thL2 (by decide) th_calc2 (booV false) (nilV) (ok_boo _) (ok_nil) (boo_bareE _) (nil_bareE) _ th_ev2_02 a9 w h)
 unfold thL2 at TD2
 have b0 := below1 w (Obj.cells #[.int .i64 1, .bool false, .int .i64 0, .int .i64 0, .string ⟨#[]⟩, .slice none 0 0, .int .i64 1, .bool true, .int .i64 0, .int .i64 0, .string ⟨#[]⟩, .slice none 0 0, .int .i64 0, .bool false, .int .i64 0, .int .i64 0, .string ⟨#[]⟩, .slice none 0 0] 32)
 obtain ⟨c0, c1, c2, c3, c4, c5, c6, c7, c8, c9, c10, c11, c12, c13, c14, c15, c16, c17⟩ := thr_cells w
 have z0 : (w.alloc (Obj.cells #[.int .i64 1, .bool false, .int .i64 0, .int .i64 0, .string ⟨#[]⟩, .slice none 0 0, .int .i64 1, .bool true, .int .i64 0, .int .i64 0, .string ⟨#[]⟩, .slice none 0 0, .int .i64 0, .bool false, .int .i64 0, .int .i64 0, .string ⟨#[]⟩, .slice none 0 0] 32)).heap.size = w.heap.size + 1 := by simp
 go_enter Tryz.func8, Tryz.ntmps8
 go_wp2_with fail
 generalize w.alloc (Obj.cells #[.int .i64 1, .bool false, .int .i64 0, .int .i64 0, .string ⟨#[]⟩, .slice none 0 0, .int .i64 1, .bool true, .int .i64 0, .int .i64 0, .string ⟨#[]⟩, .slice none 0 0, .int .i64 0, .bool false, .int .i64 0, .int .i64 0, .string ⟨#[]⟩, .slice none 0 0] 32) = V at *
 have SL : Hid (∀ w', Below V.heap.size V w' → (w'.cell? ⟨w.heap.size, 0, none⟩ = some (.int .i64 1) ∧ w'.cell? ⟨w.heap.size, 1, none⟩ = some (.bool false) ∧ w'.cell? ⟨w.heap.size, 2, none⟩ = some (.int .i64 0) ∧ w'.cell? ⟨w.heap.size, 3, none⟩ = some (.int .i64 0) ∧ w'.cell? ⟨w.heap.size, 4, none⟩ = some (.string ⟨#[]⟩) ∧ w'.cell? ⟨w.heap.size, 5, none⟩ = some (.slice none 0 0) ∧ w'.cell? ⟨w.heap.size, 6, none⟩ = some (.int .i64 1) ∧ w'.cell? ⟨w.heap.size, 7, none⟩ = some (.bool true) ∧ w'.cell? ⟨w.heap.size, 8, none⟩ = some (.int .i64 0) ∧ w'.cell? ⟨w.heap.size, 9, none⟩ = some (.int .i64 0) ∧ w'.cell? ⟨w.heap.size, 10, none⟩ = some (.string ⟨#[]⟩) ∧ w'.cell? ⟨w.heap.size, 11, none⟩ = some (.slice none 0 0) ∧ w'.cell? ⟨w.heap.size, 12, none⟩ = some (.int .i64 0) ∧ w'.cell? ⟨w.heap.size, 13, none⟩ = some (.bool false) ∧ w'.cell? ⟨w.heap.size, 14, none⟩ = some (.int .i64 0) ∧ w'.cell? ⟨w.heap.size, 15, none⟩ = some (.int .i64 0) ∧ w'.cell? ⟨w.heap.size, 16, none⟩ = some (.string ⟨#[]⟩) ∧ w'.cell? ⟨w.heap.size, 17, none⟩ = some (.slice none 0 0))) := hide (fun w' kk => ⟨kcell kk (World.block_lt_of_cell? _ _ c0) c0, kcell kk (World.block_lt_of_cell? _ _ c1) c1, kcell kk (World.block_lt_of_cell? _ _ c2) c2, kcell kk (World.block_lt_of_cell? _ _ c3) c3, kcell kk (World.block_lt_of_cell? _ _ c4) c4, kcell kk (World.block_lt_of_cell? _ _ c5) c5, kcell kk (World.block_lt_of_cell? _ _ c6) c6, kcell kk (World.block_lt_of_cell? _ _ c7) c7, kcell kk (World.block_lt_of_cell? _ _ c8) c8, kcell kk (World.block_lt_of_cell? _ _ c9) c9, kcell kk (World.block_lt_of_cell? _ _ c10) c10, kcell kk (World.block_lt_of_cell? _ _ c11) c11, kcell kk (World.block_lt_of_cell? _ _ c12) c12, kcell kk (World.block_lt_of_cell? _ _ c13) c13, kcell kk (World.block_lt_of_cell? _ _ c14) c14, kcell kk (World.block_lt_of_cell? _ _ c15) c15, kcell kk (World.block_lt_of_cell? _ _ c16) c16, kcell kk (World.block_lt_of_cell? _ _ c17) c17⟩)
 have SK : Hid (∀ w', Below V.heap.size V w' → (Below V.heap.size V w' ∧ w'.cell? ⟨w.heap.size, 0, none⟩ = some (.int .i64 1) ∧ w'.cell? ⟨w.heap.size, 1, none⟩ = some (.bool false) ∧ w'.cell? ⟨w.heap.size, 2, none⟩ = some (.int .i64 0) ∧ w'.cell? ⟨w.heap.size, 3, none⟩ = some (.int .i64 0) ∧ w'.cell? ⟨w.heap.size, 4, none⟩ = some (.string ⟨#[]⟩) ∧ w'.cell? ⟨w.heap.size, 5, none⟩ = some (.slice none 0 0) ∧ w'.cell? ⟨w.heap.size, 12, none⟩ = some (.int .i64 0) ∧ w'.cell? ⟨w.heap.size, 13, none⟩ = some (.bool false) ∧ w'.cell? ⟨w.heap.size, 14, none⟩ = some (.int .i64 0) ∧ w'.cell? ⟨w.heap.size, 15, none⟩ = some (.int .i64 0) ∧ w'.cell? ⟨w.heap.size, 16, none⟩ = some (.string ⟨#[]⟩) ∧ w'.cell? ⟨w.heap.size, 17, none⟩ = some (.slice none 0 0))) := hide (fun w' kk => ⟨kk, kcell kk (World.block_lt_of_cell? _ _ c0) c0, kcell kk (World.block_lt_of_cell? _ _ c1) c1, kcell kk (World.block_lt_of_cell? _ _ c2) c2, kcell kk (World.block_lt_of_cell? _ _ c3) c3, kcell kk (World.block_lt_of_cell? _ _ c4) c4, kcell kk (World.block_lt_of_cell? _ _ c5) c5, kcell kk (World.block_lt_of_cell? _ _ c12) c12, kcell kk (World.block_lt_of_cell? _ _ c13) c13, kcell kk (World.block_lt_of_cell? _ _ c14) c14, kcell kk (World.block_lt_of_cell? _ _ c15) c15, kcell kk (World.block_lt_of_cell? _ _ c16) c16, kcell kk (World.block_lt_of_cell? _ _ c17) c17⟩)
 clear c0 c1 c2 c3 c4 c5 c6 c7 c8 c9 c10 c11 c12 c13 c14 c15 c16 c17
 refine wp_region_noPanic ?_
 refine wp_region_held_drew (S := fun w' => Below V.heap.size V w' ∧ w'.cell? ⟨w.heap.size, 0, none⟩ = some (.int .i64 1) ∧ w'.cell? ⟨w.heap.size, 1, none⟩ = some (.bool false) ∧ w'.cell? ⟨w.heap.size, 2, none⟩ = some (.int .i64 0) ∧ w'.cell? ⟨w.heap.size, 3, none⟩ = some (.int .i64 0) ∧ w'.cell? ⟨w.heap.size, 4, none⟩ = some (.string ⟨#[]⟩) ∧ w'.cell? ⟨w.heap.size, 5, none⟩ = some (.slice none 0 0) ∧ w'.cell? ⟨w.heap.size, 12, none⟩ = some (.int .i64 0) ∧ w'.cell? ⟨w.heap.size, 13, none⟩ = some (.bool false) ∧ w'.cell? ⟨w.heap.size, 14, none⟩ = some (.int .i64 0) ∧ w'.cell? ⟨w.heap.size, 15, none⟩ = some (.int .i64 0) ∧ w'.cell? ⟨w.heap.size, 16, none⟩ = some (.string ⟨#[]⟩) ∧ w'.cell? ⟨w.heap.size, 17, none⟩ = some (.slice none 0 0)) (by kernel_rfl) ?hS0a (fun hHeld => ?_)
 case hS0a => exact unhide SK _ (Below.refl _ _).drew
 have jda : Below V.heap.size V V.drew := (Below.refl _ _).drew
 clear jda
 generalize V.drew = u0a at *
 refine takeA 0 (some 34) ?va0x0 ⟨_, rfl, rfl, rfl, ?ya0x0⟩ ?_
 case ya0x0 => intro w0 hS; go_simp; try (with_reducible rfl)
 simp only [Act.put, List.setIfInBounds_toArray, List.set_cons_zero, List.set_cons_succ]
 refine takeA 1 (some 35) ?va1x0 ⟨_, rfl, rfl, rfl, ?ya1x0⟩ ?_
 case ya1x0 => intro w0 hS; go_simp; try (with_reducible rfl)
 simp only [Act.put, List.setIfInBounds_toArray, List.set_cons_zero, List.set_cons_succ]
 refine takeA 2 (some 36) ?va2x0 ⟨_, rfl, rfl, rfl, ?ya2x0⟩ ?_
 case ya2x0 => intro w0 hS; go_simp; try (with_reducible rfl)
 simp only [Act.put, List.setIfInBounds_toArray, List.set_cons_zero, List.set_cons_succ]
 refine takeA 3 (some 37) ?va3x0 ⟨_, rfl, rfl, rfl, ?ya3x0⟩ ?_
 case ya3x0 => intro w0 hS; (try dsimp only at hS); go_simp; try (with_reducible rfl)
 simp only [Act.put, List.setIfInBounds_toArray, List.set_cons_zero, List.set_cons_succ]
 refine takeA 4 (some 38) ?va4x0 ⟨_, rfl, rfl, rfl, ?ya4x0⟩ ?_
 case ya4x0 => intro w0 hS; go_simp; try (with_reducible rfl)
 simp only [Act.put, List.setIfInBounds_toArray, List.set_cons_zero, List.set_cons_succ]
 refine takeA 5 (some 39) ?va5x0 ⟨_, rfl, rfl, rfl, ?ya5x0⟩ ?_
 case ya5x0 => intro w0 hS; go_simp; try (with_reducible rfl)
 simp only [Act.put, List.setIfInBounds_toArray, List.set_cons_zero, List.set_cons_succ]
 refine takeA 6 (some 40) ?va6x0 ⟨_, rfl, rfl, rfl, ?ya6x0⟩ ?_
 case ya6x0 => intro w0 hS; go_simp; try (with_reducible rfl)
 simp only [Act.put, List.setIfInBounds_toArray, List.set_cons_zero, List.set_cons_succ]
 refine takeA 7 (some 41) ?va7x0 ⟨_, rfl, rfl, rfl, ?ya7x0⟩ ?_
 case ya7x0 => intro w0 hS; go_simp; try (with_reducible rfl)
 simp only [Act.put, List.setIfInBounds_toArray, List.set_cons_zero, List.set_cons_succ]
 refine takeA 8 (some 42) ?va8x0 ⟨_, rfl, rfl, rfl, ?ya8x0⟩ ?_
 case ya8x0 => intro w0 hS; (try dsimp only at hS); go_simp; try (with_reducible rfl)
 simp only [Act.put, List.setIfInBounds_toArray, List.set_cons_zero, List.set_cons_succ]
 refine takeA 9 (some 43) ?va9x0 ⟨_, rfl, rfl, rfl, ?ya9x0⟩ ?_
 case ya9x0 => intro w0 hS; go_simp; try (with_reducible rfl)
 simp only [Act.put, List.setIfInBounds_toArray, List.set_cons_zero, List.set_cons_succ]
 refine wpAnyH_ready (rs := [10]) (by kernel_rfl) (by simp) ?_
 refine AllReadyH.cons rfl (fun K0 hK0 => ?_) AllReadyH.nil
 go_simp
 refine hK0.out _ _ ?hS1a (fun hHeld1 => ?_)
 case hS1a => exact unhide SK _ (keep_alloc hHeld _)
 clear hK0 K0
 have j1a := below1 u0a (Obj.cells #[.string ⟨#[97]⟩, .int .i64 1, .bool false, .int .i64 0, .int .i64 0, .string ⟨#[]⟩, .slice none 0 0, .string ⟨#[98]⟩, .int .i64 0, .bool false, .int .i64 0, .int .i64 0, .string ⟨#[]⟩, .slice none 0 0] 48)
 have z1a : V.heap.size ≤ u0a.heap.size := hHeld.1.size
 have EN1a := hide (env2 (w := u0a.alloc (Obj.cells #[.string ⟨#[97]⟩, .int .i64 1, .bool false, .int .i64 0, .int .i64 0, .string ⟨#[]⟩, .slice none 0 0, .string ⟨#[98]⟩, .int .i64 0, .bool false, .int .i64 0, .int .i64 0, .string ⟨#[]⟩, .slice none 0 0] 48)) (g := u0a.heap.size) ⟨#[97]⟩ ⟨#[98]⟩ _ _ (boo_in _ _) (nil_in _) (by go_simp) (fun j hj => by match j, hj with | 0, _ => (go_simp; rfl) | 1, _ => (go_simp; rfl) | 2, _ => (go_simp; rfl) | 3, _ => (go_simp; rfl) | 4, _ => (go_simp; rfl) | 5, _ => (go_simp; rfl)) (by go_simp) (fun j hj => by match j, hj with | 0, _ => (go_simp; rfl) | 1, _ => (go_simp; rfl) | 2, _ => (go_simp; rfl) | 3, _ => (go_simp; rfl) | 4, _ => (go_simp; rfl) | 5, _ => (go_simp; rfl)))
 generalize u0a.alloc (Obj.cells #[.string ⟨#[97]⟩, .int .i64 1, .bool false, .int .i64 0, .int .i64 0, .string ⟨#[]⟩, .slice none 0 0, .string ⟨#[98]⟩, .int .i64 0, .bool false, .int .i64 0, .int .i64 0, .string ⟨#[]⟩, .slice none 0 0] 48) = u1a at *
 generalize u0a.heap.size = g1a at *
 clear j1a
 clear hHeld 
 have hHeld := hHeld1
 clear hHeld1
 try simp only [Act.put, List.setIfInBounds_toArray, List.set_cons_zero, List.set_cons_succ]
 refine takeA 11 (some 6) ?va11x1 ⟨_, rfl, rfl, rfl, ?ya11x1⟩ ?_
 case ya11x1 => intro w0 hS; go_simp; try (with_reducible rfl)
 simp only [Act.put, List.setIfInBounds_toArray, List.set_cons_zero, List.set_cons_succ]
 refine wpAnyH_done (by kernel_rfl) ?_ _
 refine NoPanic.normal ?_
 have EN := EN1a
 have BZ := hHeld.1
 clear hHeld

 go_wp2_with fail
 refine (unhide TD0 _ _ (unhide EN)).mono ?_
 rintro e v1 ⟨⟨v, rfl, T, rfl, hT, hTl, hTb⟩, k1⟩
 obtain ⟨a0, d0, kid0, rfl⟩ := leaf_form (k := 1) (b := false) (m := 0) (s := 0) (t := ⟨#[]⟩) hT hTb
 have HT0 := hide hT
 have EN1 := hide (((unhide EN).below k1).below (below1 v1 (Obj.cells #[.int .i64 1, .bool false, .int .i64 0, .int .i64 0, .string ⟨#[]⟩, .slice a0 0 d0] 32)))
 have BZ1 := bstep (bstep BZ k1) (below1 v1 (Obj.cells #[.int .i64 1, .bool false, .int .i64 0, .int .i64 0, .string ⟨#[]⟩, .slice a0 0 d0] 32))
 have X0_0 := six_new v1 1 false 0 0 ⟨#[]⟩ a0 0 d0
 clear hT hTl hTb k1 BZ EN TD0 
 dsimp only [VT.val]
 go_wp2_with fail
 generalize v1.alloc (Obj.cells #[.int .i64 1, .bool false, .int .i64 0, .int .i64 0, .string ⟨#[]⟩, .slice a0 0 d0] 32) = y1 at *
 generalize v1.heap.size = g0 at *
 refine (unhide TD1 _ _ (unhide EN1)).mono ?_
 rintro e v2 ⟨⟨v, rfl, T, rfl, hT, hTl, hTb⟩, k1⟩
 obtain ⟨a1, d1, kid1, rfl⟩ := leaf_form (k := 0) (b := false) (m := 0) (s := 0) (t := ⟨#[]⟩) hT hTb
 have HT1 := hide hT
 have EN2 := hide (((unhide EN1).below k1).below (below1 v2 (Obj.cells #[.int .i64 0, .bool false, .int .i64 0, .int .i64 0, .string ⟨#[]⟩, .slice a1 0 d1] 32)))
 have BZ2 := bstep (bstep BZ1 k1) (below1 v2 (Obj.cells #[.int .i64 0, .bool false, .int .i64 0, .int .i64 0, .string ⟨#[]⟩, .slice a1 0 d1] 32))
 have X0_1 := (X0_0.below k1).below (below1 v2 (Obj.cells #[.int .i64 0, .bool false, .int .i64 0, .int .i64 0, .string ⟨#[]⟩, .slice a1 0 d1] 32))
 have X1_1 := six_new v2 0 false 0 0 ⟨#[]⟩ a1 0 d1
 clear hT hTl hTb k1 BZ1 EN1 TD1 X0_0
 dsimp only [VT.val]
 go_wp2_with fail
 generalize v2.alloc (Obj.cells #[.int .i64 0, .bool false, .int .i64 0, .int .i64 0, .string ⟨#[]⟩, .slice a1 0 d1] 32) = y2 at *
 generalize v2.heap.size = g1 at *
 refine (unhide TD2 _ _ (unhide EN2)).mono ?_
 rintro e v3 ⟨⟨v, rfl, T, rfl, hT, hTl, hTb⟩, k1⟩
 obtain ⟨a2, d2, kid2, rfl⟩ := leaf_form (k := 1) (b := true) (m := 0) (s := 0) (t := ⟨#[]⟩) hT hTb
 have HT2 := hide hT
 have EN3 := hide (((unhide EN2).below k1).below (below1 v3 (Obj.cells #[.int .i64 1, .bool true, .int .i64 0, .int .i64 0, .string ⟨#[]⟩, .slice a2 0 d2] 32)))
 have BZ3 := bstep (bstep BZ2 k1) (below1 v3 (Obj.cells #[.int .i64 1, .bool true, .int .i64 0, .int .i64 0, .string ⟨#[]⟩, .slice a2 0 d2] 32))
 have X0_2 := (X0_1.below k1).below (below1 v3 (Obj.cells #[.int .i64 1, .bool true, .int .i64 0, .int .i64 0, .string ⟨#[]⟩, .slice a2 0 d2] 32))
 have X1_2 := (X1_1.below k1).below (below1 v3 (Obj.cells #[.int .i64 1, .bool true, .int .i64 0, .int .i64 0, .string ⟨#[]⟩, .slice a2 0 d2] 32))
 have X2_2 := six_new v3 1 true 0 0 ⟨#[]⟩ a2 0 d2
 clear hT hTl hTb k1 BZ2 EN2 TD2 X0_1 X1_1
 dsimp only [VT.val]
 clear EN3
 go_upto_region 18 with fail
 have BY := bstep BZ3 (below1 _ (Obj.cells #[.int .i64 1, .int .i64 0, .int .i64 2] 3))
 have Y0 := X0_2.below (below1 _ (Obj.cells #[.int .i64 1, .int .i64 0, .int .i64 2] 3))
 have Y1 := X1_2.below (below1 _ (Obj.cells #[.int .i64 1, .int .i64 0, .int .i64 2] 3))
 have Y2 := X2_2.below (below1 _ (Obj.cells #[.int .i64 1, .int .i64 0, .int .i64 2] 3))
 clear BZ3 X0_2 X1_2 X2_2
 generalize (v3.alloc (Obj.cells #[.int .i64 1, .bool true, .int .i64 0, .int .i64 0, .string ⟨#[]⟩, .slice a2 0 d2] 32)).alloc (Obj.cells #[.int .i64 1, .int .i64 0, .int .i64 2] 3) = Z at *
 generalize v3.heap.size = g2 at *
 obtain ⟨y00, y01, y02, y03, y04, y05, y06⟩ := Y0
 obtain ⟨y10, y11, y12, y13, y14, y15, y16⟩ := Y1
 obtain ⟨y20, y21, y22, y23, y24, y25, y26⟩ := Y2
 simp only [Nat.zero_add] at y01 y02 y03 y04 y05 y06 y11 y12 y13 y14 y15 y16 y21 y22 y23 y24 y25 y26
 obtain ⟨c0, c1, c2, c3, c4, c5, c6, c7, c8, c9, c10, c11, c12, c13, c14, c15, c16, c17⟩ := unhide SL _ BY
 have SK2 : Hid (∀ w', Below Z.heap.size Z w' → (Below Z.heap.size Z w' ∧ w'.cell? ⟨g0, 0, none⟩ = some (.int .i64 1) ∧ w'.cell? ⟨g0, 1, none⟩ = some (.bool false) ∧ w'.cell? ⟨g0, 2, none⟩ = some (.int .i64 0) ∧ w'.cell? ⟨g0, 3, none⟩ = some (.int .i64 0) ∧ w'.cell? ⟨g0, 4, none⟩ = some (.string ⟨#[]⟩) ∧ w'.cell? ⟨g0, 5, none⟩ = some (.slice a0 0 d0) ∧ w'.cell? ⟨g1, 0, none⟩ = some (.int .i64 0) ∧ w'.cell? ⟨g1, 1, none⟩ = some (.bool false) ∧ w'.cell? ⟨g1, 2, none⟩ = some (.int .i64 0) ∧ w'.cell? ⟨g1, 3, none⟩ = some (.int .i64 0) ∧ w'.cell? ⟨g1, 4, none⟩ = some (.string ⟨#[]⟩) ∧ w'.cell? ⟨g1, 5, none⟩ = some (.slice a1 0 d1) ∧ w'.cell? ⟨g2, 0, none⟩ = some (.int .i64 1) ∧ w'.cell? ⟨g2, 1, none⟩ = some (.bool true) ∧ w'.cell? ⟨g2, 2, none⟩ = some (.int .i64 0) ∧ w'.cell? ⟨g2, 3, none⟩ = some (.int .i64 0) ∧ w'.cell? ⟨g2, 4, none⟩ = some (.string ⟨#[]⟩) ∧ w'.cell? ⟨g2, 5, none⟩ = some (.slice a2 0 d2) ∧ w'.cell? ⟨w.heap.size, 0, none⟩ = some (.int .i64 1) ∧ w'.cell? ⟨w.heap.size, 1, none⟩ = some (.bool false) ∧ w'.cell? ⟨w.heap.size, 2, none⟩ = some (.int .i64 0) ∧ w'.cell? ⟨w.heap.size, 3, none⟩ = some (.int .i64 0) ∧ w'.cell? ⟨w.heap.size, 4, none⟩ = some (.string ⟨#[]⟩) ∧ w'.cell? ⟨w.heap.size, 5, none⟩ = some (.slice none 0 0) ∧ w'.cell? ⟨w.heap.size, 6, none⟩ = some (.int .i64 1) ∧ w'.cell? ⟨w.heap.size, 7, none⟩ = some (.bool true) ∧ w'.cell? ⟨w.heap.size, 8, none⟩ = some (.int .i64 0) ∧ w'.cell? ⟨w.heap.size, 9, none⟩ = some (.int .i64 0) ∧ w'.cell? ⟨w.heap.size, 10, none⟩ = some (.string ⟨#[]⟩) ∧ w'.cell? ⟨w.heap.size, 11, none⟩ = some (.slice none 0 0) ∧ w'.cell? ⟨w.heap.size, 12, none⟩ = some (.int .i64 0) ∧ w'.cell? ⟨w.heap.size, 13, none⟩ = some (.bool false) ∧ w'.cell? ⟨w.heap.size, 14, none⟩ = some (.int .i64 0) ∧ w'.cell? ⟨w.heap.size, 15, none⟩ = some (.int .i64 0) ∧ w'.cell? ⟨w.heap.size, 16, none⟩ = some (.string ⟨#[]⟩) ∧ w'.cell? ⟨w.heap.size, 17, none⟩ = some (.slice none 0 0))) := hide (fun w' kk => ⟨kk, kcell kk (World.block_lt_of_cell? _ _ y01) y01, kcell kk (World.block_lt_of_cell? _ _ y02) y02, kcell kk (World.block_lt_of_cell? _ _ y03) y03, kcell kk (World.block_lt_of_cell? _ _ y04) y04, kcell kk (World.block_lt_of_cell? _ _ y05) y05, kcell kk (World.block_lt_of_cell? _ _ y06) y06, kcell kk (World.block_lt_of_cell? _ _ y11) y11, kcell kk (World.block_lt_of_cell? _ _ y12) y12, kcell kk (World.block_lt_of_cell? _ _ y13) y13, kcell kk (World.block_lt_of_cell? _ _ y14) y14, kcell kk (World.block_lt_of_cell? _ _ y15) y15, kcell kk (World.block_lt_of_cell? _ _ y16) y16, kcell kk (World.block_lt_of_cell? _ _ y21) y21, kcell kk (World.block_lt_of_cell? _ _ y22) y22, kcell kk (World.block_lt_of_cell? _ _ y23) y23, kcell kk (World.block_lt_of_cell? _ _ y24) y24, kcell kk (World.block_lt_of_cell? _ _ y25) y25, kcell kk (World.block_lt_of_cell? _ _ y26) y26, kcell kk (World.block_lt_of_cell? _ _ c0) c0, kcell kk (World.block_lt_of_cell? _ _ c1) c1, kcell kk (World.block_lt_of_cell? _ _ c2) c2, kcell kk (World.block_lt_of_cell? _ _ c3) c3, kcell kk (World.block_lt_of_cell? _ _ c4) c4, kcell kk (World.block_lt_of_cell? _ _ c5) c5, kcell kk (World.block_lt_of_cell? _ _ c6) c6, kcell kk (World.block_lt_of_cell? _ _ c7) c7, kcell kk (World.block_lt_of_cell? _ _ c8) c8, kcell kk (World.block_lt_of_cell? _ _ c9) c9, kcell kk (World.block_lt_of_cell? _ _ c10) c10, kcell kk (World.block_lt_of_cell? _ _ c11) c11, kcell kk (World.block_lt_of_cell? _ _ c12) c12, kcell kk (World.block_lt_of_cell? _ _ c13) c13, kcell kk (World.block_lt_of_cell? _ _ c14) c14, kcell kk (World.block_lt_of_cell? _ _ c15) c15, kcell kk (World.block_lt_of_cell? _ _ c16) c16, kcell kk (World.block_lt_of_cell? _ _ c17) c17⟩)
 clear SK SL y00 y01 y02 y03 y04 y05 y06 y10 y11 y12 y13 y14 y15 y16 y20 y21 y22 y23 y24 y25 y26 c0 c1 c2 c3 c4 c5 c6 c7 c8 c9 c10 c11 c12 c13 c14 c15 c16 c17
 have SK := SK2
 clear SK2
 refine wp_region_noPanic ?_
 refine wp_region_held_drew (S := fun w' => Below Z.heap.size Z w' ∧ w'.cell? ⟨g0, 0, none⟩ = some (.int .i64 1) ∧ w'.cell? ⟨g0, 1, none⟩ = some (.bool false) ∧ w'.cell? ⟨g0, 2, none⟩ = some (.int .i64 0) ∧ w'.cell? ⟨g0, 3, none⟩ = some (.int .i64 0) ∧ w'.cell? ⟨g0, 4, none⟩ = some (.string ⟨#[]⟩) ∧ w'.cell? ⟨g0, 5, none⟩ = some (.slice a0 0 d0) ∧ w'.cell? ⟨g1, 0, none⟩ = some (.int .i64 0) ∧ w'.cell? ⟨g1, 1, none⟩ = some (.bool false) ∧ w'.cell? ⟨g1, 2, none⟩ = some (.int .i64 0) ∧ w'.cell? ⟨g1, 3, none⟩ = some (.int .i64 0) ∧ w'.cell? ⟨g1, 4, none⟩ = some (.string ⟨#[]⟩) ∧ w'.cell? ⟨g1, 5, none⟩ = some (.slice a1 0 d1) ∧ w'.cell? ⟨g2, 0, none⟩ = some (.int .i64 1) ∧ w'.cell? ⟨g2, 1, none⟩ = some (.bool true) ∧ w'.cell? ⟨g2, 2, none⟩ = some (.int .i64 0) ∧ w'.cell? ⟨g2, 3, none⟩ = some (.int .i64 0) ∧ w'.cell? ⟨g2, 4, none⟩ = some (.string ⟨#[]⟩) ∧ w'.cell? ⟨g2, 5, none⟩ = some (.slice a2 0 d2) ∧ w'.cell? ⟨w.heap.size, 0, none⟩ = some (.int .i64 1) ∧ w'.cell? ⟨w.heap.size, 1, none⟩ = some (.bool false) ∧ w'.cell? ⟨w.heap.size, 2, none⟩ = some (.int .i64 0) ∧ w'.cell? ⟨w.heap.size, 3, none⟩ = some (.int .i64 0) ∧ w'.cell? ⟨w.heap.size, 4, none⟩ = some (.string ⟨#[]⟩) ∧ w'.cell? ⟨w.heap.size, 5, none⟩ = some (.slice none 0 0) ∧ w'.cell? ⟨w.heap.size, 6, none⟩ = some (.int .i64 1) ∧ w'.cell? ⟨w.heap.size, 7, none⟩ = some (.bool true) ∧ w'.cell? ⟨w.heap.size, 8, none⟩ = some (.int .i64 0) ∧ w'.cell? ⟨w.heap.size, 9, none⟩ = some (.int .i64 0) ∧ w'.cell? ⟨w.heap.size, 10, none⟩ = some (.string ⟨#[]⟩) ∧ w'.cell? ⟨w.heap.size, 11, none⟩ = some (.slice none 0 0) ∧ w'.cell? ⟨w.heap.size, 12, none⟩ = some (.int .i64 0) ∧ w'.cell? ⟨w.heap.size, 13, none⟩ = some (.bool false) ∧ w'.cell? ⟨w.heap.size, 14, none⟩ = some (.int .i64 0) ∧ w'.cell? ⟨w.heap.size, 15, none⟩ = some (.int .i64 0) ∧ w'.cell? ⟨w.heap.size, 16, none⟩ = some (.string ⟨#[]⟩) ∧ w'.cell? ⟨w.heap.size, 17, none⟩ = some (.slice none 0 0)) (by kernel_rfl) ?hS0z (fun hHeld => ?_)
 case hS0z => exact unhide SK _ (Below.refl _ _).drew
 have jdz : Below Z.heap.size Z Z.drew := (Below.refl _ _).drew
 clear jdz
 generalize Z.drew = u0z at *
 refine takeA 0 (some 88) ?vz0x0 ⟨_, rfl, rfl, rfl, ?yz0x0⟩ ?_
 case yz0x0 => intro w0 hS; go_simp; try (with_reducible rfl)
 simp only [Act.put, List.setIfInBounds_toArray, List.set_cons_zero, List.set_cons_succ]
 refine takeA 1 (some 89) ?vz1x0 ⟨_, rfl, rfl, rfl, ?yz1x0⟩ ?_
 case yz1x0 => intro w0 hS; go_simp; try (with_reducible rfl)
 simp only [Act.put, List.setIfInBounds_toArray, List.set_cons_zero, List.set_cons_succ]
 refine takeA 2 (some 90) ?vz2x0 ⟨_, rfl, rfl, rfl, ?yz2x0⟩ ?_
 case yz2x0 => intro w0 hS; go_simp; try (with_reducible rfl)
 simp only [Act.put, List.setIfInBounds_toArray, List.set_cons_zero, List.set_cons_succ]
 refine takeA 3 (some 91) ?vz3x0 ⟨_, rfl, rfl, rfl, ?yz3x0⟩ ?_
 case yz3x0 => intro w0 hS; go_simp; try (with_reducible rfl)
 simp only [Act.put, List.setIfInBounds_toArray, List.set_cons_zero, List.set_cons_succ]
 refine takeA 4 (some 92) ?vz4x0 ⟨_, rfl, rfl, rfl, ?yz4x0⟩ ?_
 case yz4x0 => intro w0 hS; go_simp; try (with_reducible rfl)
 simp only [Act.put, List.setIfInBounds_toArray, List.set_cons_zero, List.set_cons_succ]
 refine takeA 5 (some 93) ?vz5x0 ⟨_, rfl, rfl, rfl, ?yz5x0⟩ ?_
 case yz5x0 => intro w0 hS; go_simp; try (with_reducible rfl)
 simp only [Act.put, List.setIfInBounds_toArray, List.set_cons_zero, List.set_cons_succ]
 refine takeA 6 (some 94) ?vz6x0 ⟨_, rfl, rfl, rfl, ?yz6x0⟩ ?_
 case yz6x0 => intro w0 hS; go_simp; try (with_reducible rfl)
 simp only [Act.put, List.setIfInBounds_toArray, List.set_cons_zero, List.set_cons_succ]
 refine takeA 7 (some 95) ?vz7x0 ⟨_, rfl, rfl, rfl, ?yz7x0⟩ ?_
 case yz7x0 => intro w0 hS; (try dsimp only at hS); go_simp; try (with_reducible rfl)
 simp only [Act.put, List.setIfInBounds_toArray, List.set_cons_zero, List.set_cons_succ]
 refine takeA 8 (some 96) ?vz8x0 ⟨_, rfl, rfl, rfl, ?yz8x0⟩ ?_
 case yz8x0 => intro w0 hS; go_simp; try (with_reducible rfl)
 simp only [Act.put, List.setIfInBounds_toArray, List.set_cons_zero, List.set_cons_succ]
 refine takeA 9 (some 97) ?vz9x0 ⟨_, rfl, rfl, rfl, ?yz9x0⟩ ?_
 case yz9x0 => intro w0 hS; go_simp; try (with_reducible rfl)
 simp only [Act.put, List.setIfInBounds_toArray, List.set_cons_zero, List.set_cons_succ]
 refine takeA 10 (some 98) ?vz10x0 ⟨_, rfl, rfl, rfl, ?yz10x0⟩ ?_
 case yz10x0 => intro w0 hS; go_simp; try (with_reducible rfl)
 simp only [Act.put, List.setIfInBounds_toArray, List.set_cons_zero, List.set_cons_succ]
 refine takeA 11 (some 99) ?vz11x0 ⟨_, rfl, rfl, rfl, ?yz11x0⟩ ?_
 case yz11x0 => intro w0 hS; (try dsimp only at hS); go_simp; try (with_reducible rfl)
 simp only [Act.put, List.setIfInBounds_toArray, List.set_cons_zero, List.set_cons_succ]
 refine wpAnyH_ready (rs := [12]) (by kernel_rfl) (by simp) ?_
 refine AllReadyH.cons rfl (fun K0 hK0 => ?_) AllReadyH.nil
 go_simp
 refine (slf_same 1 false 0 0 ⟨#[]⟩ a0 d0 kid0 (unhide HT0) _).mono ?_
 rintro e u1z ⟨rfl, j1z⟩
 go_wp2_with fail
 refine hK0.out _ _ ?hS1z (fun hHeld1 => ?_)
 case hS1z => exact unhide SK _ (keep_call hHeld j1z)
 clear hK0 K0
 clear j1z
 clear hHeld 
 have hHeld := hHeld1
 clear hHeld1
 try simp only [Act.put, List.setIfInBounds_toArray, List.set_cons_zero, List.set_cons_succ]
 refine takeA 13 (some 101) ?vz13x1 ⟨_, rfl, rfl, rfl, ?yz13x1⟩ ?_
 case yz13x1 => intro w0 hS; go_simp; try (with_reducible rfl)
 simp only [Act.put, List.setIfInBounds_toArray, List.set_cons_zero, List.set_cons_succ]
 refine takeA 14 (some 102) ?vz14x1 ⟨_, rfl, rfl, rfl, ?yz14x1⟩ ?_
 case yz14x1 => intro w0 hS; go_simp; try (with_reducible rfl)
 simp only [Act.put, List.setIfInBounds_toArray, List.set_cons_zero, List.set_cons_succ]
 refine takeA 15 (some 103) ?vz15x1 ⟨_, rfl, rfl, rfl, ?yz15x1⟩ ?_
 case yz15x1 => intro w0 hS; (try dsimp only at hS); go_simp; try (with_reducible rfl)
 simp only [Act.put, List.setIfInBounds_toArray, List.set_cons_zero, List.set_cons_succ]
 refine takeA 16 (some 104) ?vz16x1 ⟨_, rfl, rfl, rfl, ?yz16x1⟩ ?_
 case yz16x1 => intro w0 hS; go_simp; try (with_reducible rfl)
 simp only [Act.put, List.setIfInBounds_toArray, List.set_cons_zero, List.set_cons_succ]
 refine takeA 17 (some 105) ?vz17x1 ⟨_, rfl, rfl, rfl, ?yz17x1⟩ ?_
 case yz17x1 => intro w0 hS; go_simp; try (with_reducible rfl)
 simp only [Act.put, List.setIfInBounds_toArray, List.set_cons_zero, List.set_cons_succ]
 refine takeA 18 (some 106) ?vz18x1 ⟨_, rfl, rfl, rfl, ?yz18x1⟩ ?_
 case yz18x1 => intro w0 hS; go_simp; try (with_reducible rfl)
 simp only [Act.put, List.setIfInBounds_toArray, List.set_cons_zero, List.set_cons_succ]
 refine takeA 19 (some 107) ?vz19x1 ⟨_, rfl, rfl, rfl, ?yz19x1⟩ ?_
 case yz19x1 => intro w0 hS; (try dsimp only at hS); go_simp; try (with_reducible rfl)
 simp only [Act.put, List.setIfInBounds_toArray, List.set_cons_zero, List.set_cons_succ]
 refine wpAnyH_ready (rs := [20]) (by kernel_rfl) (by simp) ?_
 refine AllReadyH.cons rfl (fun K0 hK0 => ?_) AllReadyH.nil
 go_simp
 refine (slf_same 0 false 0 0 ⟨#[]⟩ a1 d1 kid1 (unhide HT1) _).mono ?_
 rintro e u2z ⟨rfl, j2z⟩
 go_wp2_with fail
 refine hK0.out _ _ ?hS2z (fun hHeld1 => ?_)
 case hS2z => exact unhide SK _ (keep_call hHeld j2z)
 clear hK0 K0
 clear j2z
 clear hHeld 
 have hHeld := hHeld1
 clear hHeld1
 try simp only [Act.put, List.setIfInBounds_toArray, List.set_cons_zero, List.set_cons_succ]
 refine takeA 21 (some 109) ?vz21x2 ⟨_, rfl, rfl, rfl, ?yz21x2⟩ ?_
 case yz21x2 => intro w0 hS; go_simp; try (with_reducible rfl)
 simp only [Act.put, List.setIfInBounds_toArray, List.set_cons_zero, List.set_cons_succ]
 refine takeA 22 (some 110) ?vz22x2 ⟨_, rfl, rfl, rfl, ?yz22x2⟩ ?_
 case yz22x2 => intro w0 hS; go_simp; try (with_reducible rfl)
 simp only [Act.put, List.setIfInBounds_toArray, List.set_cons_zero, List.set_cons_succ]
 refine takeA 23 (some 111) ?vz23x2 ⟨_, rfl, rfl, rfl, ?yz23x2⟩ ?_
 case yz23x2 => intro w0 hS; (try dsimp only at hS); go_simp; try (with_reducible rfl)
 simp only [Act.put, List.setIfInBounds_toArray, List.set_cons_zero, List.set_cons_succ]
 refine takeA 24 (some 112) ?vz24x2 ⟨_, rfl, rfl, rfl, ?yz24x2⟩ ?_
 case yz24x2 => intro w0 hS; go_simp; try (with_reducible rfl)
 simp only [Act.put, List.setIfInBounds_toArray, List.set_cons_zero, List.set_cons_succ]
 refine takeA 25 (some 113) ?vz25x2 ⟨_, rfl, rfl, rfl, ?yz25x2⟩ ?_
 case yz25x2 => intro w0 hS; go_simp; try (with_reducible rfl)
 simp only [Act.put, List.setIfInBounds_toArray, List.set_cons_zero, List.set_cons_succ]
 refine takeA 26 (some 114) ?vz26x2 ⟨_, rfl, rfl, rfl, ?yz26x2⟩ ?_
 case yz26x2 => intro w0 hS; go_simp; try (with_reducible rfl)
 simp only [Act.put, List.setIfInBounds_toArray, List.set_cons_zero, List.set_cons_succ]
 refine takeA 27 (some 115) ?vz27x2 ⟨_, rfl, rfl, rfl, ?yz27x2⟩ ?_
 case yz27x2 => intro w0 hS; (try dsimp only at hS); go_simp; try (with_reducible rfl)
 simp only [Act.put, List.setIfInBounds_toArray, List.set_cons_zero, List.set_cons_succ]
 refine wpAnyH_ready (rs := [28]) (by kernel_rfl) (by simp) ?_
 refine AllReadyH.cons rfl (fun K0 hK0 => ?_) AllReadyH.nil
 go_simp
 refine (slf_same 1 true 0 0 ⟨#[]⟩ a2 d2 kid2 (unhide HT2) _).mono ?_
 rintro e u3z ⟨rfl, j3z⟩
 go_wp2_with fail
 refine hK0.out _ _ ?hS3z (fun hHeld1 => ?_)
 case hS3z => exact unhide SK _ (keep_call hHeld j3z)
 clear hK0 K0
 clear j3z
 clear hHeld 
 have hHeld := hHeld1
 clear hHeld1
 try simp only [Act.put, List.setIfInBounds_toArray, List.set_cons_zero, List.set_cons_succ]
 refine takeA 29 (some 117) ?vz29x3 ⟨_, rfl, rfl, rfl, ?yz29x3⟩ ?_
 case yz29x3 => intro w0 hS; go_simp; try (with_reducible rfl)
 simp only [Act.put, List.setIfInBounds_toArray, List.set_cons_zero, List.set_cons_succ]
 refine takeA 30 (some 118) ?vz30x3 ⟨_, rfl, rfl, rfl, ?yz30x3⟩ ?_
 case yz30x3 => intro w0 hS; go_simp; try (with_reducible rfl)
 simp only [Act.put, List.setIfInBounds_toArray, List.set_cons_zero, List.set_cons_succ]
 refine wpAnyH_ready (rs := [31]) (by kernel_rfl) (by simp) ?_
 refine AllReadyH.cons rfl (fun K0 hK0 => ?_) AllReadyH.nil
 go_simp
 refine (eknown_any _).mono ?_
 rintro e u4z ⟨rfl, j4z⟩
 go_wp2_with fail
 refine hK0.out _ _ ?hS4z (fun hHeld1 => ?_)
 case hS4z => exact unhide SK _ (keep_call hHeld j4z)
 clear hK0 K0
 clear j4z
 clear hHeld 
 have hHeld := hHeld1
 clear hHeld1
 try simp only [Act.put, List.setIfInBounds_toArray, List.set_cons_zero, List.set_cons_succ]
 refine takeA 32 (some 120) ?vz32x4 ⟨_, rfl, rfl, rfl, ?yz32x4⟩ ?_
 case yz32x4 => intro w0 hS; go_simp; try (with_reducible rfl)
 simp only [Act.put, List.setIfInBounds_toArray, List.set_cons_zero, List.set_cons_succ]
 refine takeA 33 (some 4) ?vz33x4 ⟨_, rfl, rfl, rfl, ?yz33x4⟩ ?_
 case yz33x4 => intro w0 hS; go_simp; try (with_reducible rfl)
 simp only [Act.put, List.setIfInBounds_toArray, List.set_cons_zero, List.set_cons_succ]
 refine wpAnyH_done (by kernel_rfl) ?_ _
 refine NoPanic.normal ?_
 have BQ := hHeld.1
 clear hHeld
 go_wp2_with fail
 go_ret
 exact ⟨rfl, bstep b0 (bstep BY BQ)⟩

end Go.Proofs.YtfdimdjmnfdecaaGreat

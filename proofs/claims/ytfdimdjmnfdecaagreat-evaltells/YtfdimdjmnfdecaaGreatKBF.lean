/- RRel RE2: laid together. -/
import Derived.Test.YtfdimdjmnfdecaaGreatKBD
import Derived.Test.YtfdimdjmnfdecaaGreatKBE
set_option linter.unusedVariables false
set_option linter.unusedSimpArgs false
set_option maxHeartbeats 8000000
namespace Go.Proofs.YtfdimdjmnfdecaaGreat
open Go.RowKit
section
open VT (leaf mkV)
theorem rrel_eq  (x y : VT) (w : World) (hx : x.okB 2 = true) (hy : y.okB 2 = true) (hin : x.In w) (hin' : y.In w) :
  Calls Tryz.prog 20 #[.string ⟨([61]).toArray⟩, x.val, y.val] w fun e w' => e = .returned (lfv 1 (x.cmp y == 0) 0 0 ⟨#[]⟩) ∧ Below w.heap.size w w' := by
 obtain ⟨k, b, m, s, t, a, len, cap, kid, rfl⟩ := hin.form
 obtain ⟨k', b', m', s', t', a', len', cap', kid', rfl⟩ := hin'.form
 have CM := hide (fun w h h' => rCmp_any (VT.mk k b m s t a len cap kid) (VT.mk k' b' m' s' t' a' len' cap' kid') 2 2 w hx hy h h')
 have BT := boxes2 w k b m s t a len cap k' b' m' s' t' a' len' cap'
 have J0 := hide (hin.below BT.2.2.2.1)
 have K0 := hide (hin'.below BT.2.2.2.1)
 clear hin hin' hx hy
 show Calls Tryz.prog 20 #[.string ⟨([61]).toArray⟩, .agg #[.int .i64 k, .bool b, .int .i64 m, .int .i64 s, .string t, .slice a len cap], .agg #[.int .i64 k', .bool b', .int .i64 m', .int .i64 s', .string t', .slice a' len' cap']] w _
 generalize (VT.mk k b m s t a len cap kid).cmp (VT.mk k' b' m' s' t' a' len' cap' kid') = R at *
 go_enter Tryz.func20, Tryz.ntmps20
 go_wp2_with fail
 generalize (((w.alloc (Obj.cells #[.int .i64 k, .bool b, .int .i64 m, .int .i64 s, .string t, .slice a len cap] 32)).alloc (Obj.cells #[.int .i64 k', .bool b', .int .i64 m', .int .i64 s', .string t', .slice a' len' cap'] 32)).alloc (Obj.cells #[.int .i64 0, .bool false, .int .i64 0, .int .i64 0, .string ⟨#[]⟩, .slice none 0 0] 32)) = V at *
 obtain ⟨X0, Y0, O0, B0, z0⟩ := BT
 clear z0
 obtain ⟨x0, x1, x2, x3, x4, x5, x6⟩ := sixfl X0
 obtain ⟨y0, y1, y2, y3, y4, y5, y6⟩ := sixfl Y0
 go_wp2_with fail
 refine (unhide CM _ (unhide J0) (unhide K0)).mono ?_
 rintro e w1 ⟨rfl, k1⟩
 have X1 := VT.Six.below X0 k1
 have Y1 := VT.Six.below Y0 k1
 have O1 := Own.below O0 k1
 have B1 := bstep B0 k1
 clear k1 X0 Y0 O0 B0 J0 K0 CM x0 x1 x2 x3 x4 x5 x6 y0 y1 y2 y3 y4 y5 y6
 obtain ⟨x0, x1, x2, x3, x4, x5, x6⟩ := sixfl X1
 obtain ⟨y0, y1, y2, y3, y4, y5, y6⟩ := sixfl Y1
 go_wp2_with fail
 refine (rof_any _ _).mono ?_
 rintro e w2 ⟨rfl, k2⟩
 have O2 := Own.below O1 k2
 have B2 := bstep B1 k2
 clear k2 O1 B1
 unfold tval
 obtain ⟨u0, t0, t1, t2, t3, t4, t5, f0, f1, f2, f3, f4, f5⟩ := Own.fl O2
 go_wp2_with fail
 exact bodyPost_ret (v := lfv 1 (R == 0) 0 0 ⟨#[]⟩) zR20lt0t1t2t3t4t5 rfl ⟨rfl, zBL⟩
theorem rrel_ne  (x y : VT) (w : World) (hx : x.okB 2 = true) (hy : y.okB 2 = true) (hin : x.In w) (hin' : y.In w) :
  Calls Tryz.prog 20 #[.string ⟨([33, 61]).toArray⟩, x.val, y.val] w fun e w' => e = .returned (lfv 1 (!(x.cmp y == 0)) 0 0 ⟨#[]⟩) ∧ Below w.heap.size w w' := by
 obtain ⟨k, b, m, s, t, a, len, cap, kid, rfl⟩ := hin.form
 obtain ⟨k', b', m', s', t', a', len', cap', kid', rfl⟩ := hin'.form
 have CM := hide (fun w h h' => rCmp_any (VT.mk k b m s t a len cap kid) (VT.mk k' b' m' s' t' a' len' cap' kid') 2 2 w hx hy h h')
 have BT := boxes2 w k b m s t a len cap k' b' m' s' t' a' len' cap'
 have J0 := hide (hin.below BT.2.2.2.1)
 have K0 := hide (hin'.below BT.2.2.2.1)
 clear hin hin' hx hy
 show Calls Tryz.prog 20 #[.string ⟨([33, 61]).toArray⟩, .agg #[.int .i64 k, .bool b, .int .i64 m, .int .i64 s, .string t, .slice a len cap], .agg #[.int .i64 k', .bool b', .int .i64 m', .int .i64 s', .string t', .slice a' len' cap']] w _
 generalize (VT.mk k b m s t a len cap kid).cmp (VT.mk k' b' m' s' t' a' len' cap' kid') = R at *
 go_enter Tryz.func20, Tryz.ntmps20
 go_wp2_with fail
 generalize (((w.alloc (Obj.cells #[.int .i64 k, .bool b, .int .i64 m, .int .i64 s, .string t, .slice a len cap] 32)).alloc (Obj.cells #[.int .i64 k', .bool b', .int .i64 m', .int .i64 s', .string t', .slice a' len' cap'] 32)).alloc (Obj.cells #[.int .i64 0, .bool false, .int .i64 0, .int .i64 0, .string ⟨#[]⟩, .slice none 0 0] 32)) = V at *
 obtain ⟨X0, Y0, O0, B0, z0⟩ := BT
 clear z0
 obtain ⟨x0, x1, x2, x3, x4, x5, x6⟩ := sixfl X0
 obtain ⟨y0, y1, y2, y3, y4, y5, y6⟩ := sixfl Y0
 go_wp2_with fail
 refine (unhide CM _ (unhide J0) (unhide K0)).mono ?_
 rintro e w1 ⟨rfl, k1⟩
 have X1 := VT.Six.below X0 k1
 have Y1 := VT.Six.below Y0 k1
 have O1 := Own.below O0 k1
 have B1 := bstep B0 k1
 clear k1 X0 Y0 O0 B0 J0 K0 CM x0 x1 x2 x3 x4 x5 x6 y0 y1 y2 y3 y4 y5 y6
 obtain ⟨x0, x1, x2, x3, x4, x5, x6⟩ := sixfl X1
 obtain ⟨y0, y1, y2, y3, y4, y5, y6⟩ := sixfl Y1
 go_wp2_with fail
 refine (rof_any _ _).mono ?_
 rintro e w2 ⟨rfl, k2⟩
 have O2 := Own.below O1 k2
 have B2 := bstep B1 k2
 clear k2 O1 B1
 unfold tval
 obtain ⟨u0, t0, t1, t2, t3, t4, t5, f0, f1, f2, f3, f4, f5⟩ := Own.fl O2
 go_wp2_with fail
 exact bodyPost_ret (v := lfv 1 (R != 0) 0 0 ⟨#[]⟩) zR20lt0t1t2t3t4t5 rfl ⟨rfl, zBL⟩
theorem rrel_ltn  (x y : VT) (w : World) (hk : kdV x = 2 ∧ kdV y = 2) (hx : x.okB 2 = true) (hy : y.okB 2 = true) (hin : x.In w) (hin' : y.In w) :
  Calls Tryz.prog 20 #[.string ⟨([60]).toArray⟩, x.val, y.val] w fun e w' => e = .returned (lfv 1 (decide (x.cmp y < 0)) 0 0 ⟨#[]⟩) ∧ Below w.heap.size w w' := by
 obtain ⟨k, b, m, s, t, a, len, cap, kid, rfl⟩ := hin.form
 obtain ⟨k', b', m', s', t', a', len', cap', kid', rfl⟩ := hin'.form
 have CM := hide (fun w h h' => rCmp_any (VT.mk k b m s t a len cap kid) (VT.mk k' b' m' s' t' a' len' cap' kid') 2 2 w hx hy h h')
 have BT := boxes2 w k b m s t a len cap k' b' m' s' t' a' len' cap'
 have J0 := hide (hin.below BT.2.2.2.1)
 have K0 := hide (hin'.below BT.2.2.2.1)
 clear hin hin' hx hy
 show Calls Tryz.prog 20 #[.string ⟨([60]).toArray⟩, .agg #[.int .i64 k, .bool b, .int .i64 m, .int .i64 s, .string t, .slice a len cap], .agg #[.int .i64 k', .bool b', .int .i64 m', .int .i64 s', .string t', .slice a' len' cap']] w _
 generalize (VT.mk k b m s t a len cap kid).cmp (VT.mk k' b' m' s' t' a' len' cap' kid') = R at *
 obtain ⟨hk1, hk2⟩ : k = 2 ∧ k' = 2 := hk
 subst hk1 hk2
 go_enter Tryz.func20, Tryz.ntmps20
 go_wp2_with fail
 generalize (((w.alloc (Obj.cells #[.int .i64 2, .bool b, .int .i64 m, .int .i64 s, .string t, .slice a len cap] 32)).alloc (Obj.cells #[.int .i64 2, .bool b', .int .i64 m', .int .i64 s', .string t', .slice a' len' cap'] 32)).alloc (Obj.cells #[.int .i64 0, .bool false, .int .i64 0, .int .i64 0, .string ⟨#[]⟩, .slice none 0 0] 32)) = V at *
 obtain ⟨X0, Y0, O0, B0, z0⟩ := BT
 clear z0
 obtain ⟨x0, x1, x2, x3, x4, x5, x6⟩ := sixfl X0
 obtain ⟨y0, y1, y2, y3, y4, y5, y6⟩ := sixfl Y0
 go_wp2_with fail
 refine (unhide CM _ (unhide J0) (unhide K0)).mono ?_
 rintro e w1 ⟨rfl, k1⟩
 have X1 := VT.Six.below X0 k1
 have Y1 := VT.Six.below Y0 k1
 have O1 := Own.below O0 k1
 have B1 := bstep B0 k1
 clear k1 X0 Y0 O0 B0 J0 K0 CM x0 x1 x2 x3 x4 x5 x6 y0 y1 y2 y3 y4 y5 y6
 obtain ⟨x0, x1, x2, x3, x4, x5, x6⟩ := sixfl X1
 obtain ⟨y0, y1, y2, y3, y4, y5, y6⟩ := sixfl Y1
 go_wp2_with fail
 refine (rof_any _ _).mono ?_
 rintro e w2 ⟨rfl, k2⟩
 have O2 := Own.below O1 k2
 have B2 := bstep B1 k2
 clear k2 O1 B1
 unfold tval
 obtain ⟨u0, t0, t1, t2, t3, t4, t5, f0, f1, f2, f3, f4, f5⟩ := Own.fl O2
 go_wp2_with fail
 exact bodyPost_ret (v := lfv 1 (decide (R < 0)) 0 0 ⟨#[]⟩) zR20lt0t1t2t3t4t5 rfl ⟨rfl, zBL⟩
theorem rrel_ltt  (x y : VT) (w : World) (hk : kdV x = 3 ∧ kdV y = 3) (hx : x.okB 2 = true) (hy : y.okB 2 = true) (hin : x.In w) (hin' : y.In w) :
  Calls Tryz.prog 20 #[.string ⟨([60]).toArray⟩, x.val, y.val] w fun e w' => e = .returned (lfv 1 (decide (x.cmp y < 0)) 0 0 ⟨#[]⟩) ∧ Below w.heap.size w w' := by
 obtain ⟨k, b, m, s, t, a, len, cap, kid, rfl⟩ := hin.form
 obtain ⟨k', b', m', s', t', a', len', cap', kid', rfl⟩ := hin'.form
 have CM := hide (fun w h h' => rCmp_any (VT.mk k b m s t a len cap kid) (VT.mk k' b' m' s' t' a' len' cap' kid') 2 2 w hx hy h h')
 have BT := boxes2 w k b m s t a len cap k' b' m' s' t' a' len' cap'
 have J0 := hide (hin.below BT.2.2.2.1)
 have K0 := hide (hin'.below BT.2.2.2.1)
 clear hin hin' hx hy
 show Calls Tryz.prog 20 #[.string ⟨([60]).toArray⟩, .agg #[.int .i64 k, .bool b, .int .i64 m, .int .i64 s, .string t, .slice a len cap], .agg #[.int .i64 k', .bool b', .int .i64 m', .int .i64 s', .string t', .slice a' len' cap']] w _
 generalize (VT.mk k b m s t a len cap kid).cmp (VT.mk k' b' m' s' t' a' len' cap' kid') = R at *
 obtain ⟨hk1, hk2⟩ : k = 3 ∧ k' = 3 := hk
 subst hk1 hk2
 go_enter Tryz.func20, Tryz.ntmps20
 go_wp2_with fail
 generalize (((w.alloc (Obj.cells #[.int .i64 3, .bool b, .int .i64 m, .int .i64 s, .string t, .slice a len cap] 32)).alloc (Obj.cells #[.int .i64 3, .bool b', .int .i64 m', .int .i64 s', .string t', .slice a' len' cap'] 32)).alloc (Obj.cells #[.int .i64 0, .bool false, .int .i64 0, .int .i64 0, .string ⟨#[]⟩, .slice none 0 0] 32)) = V at *
 obtain ⟨X0, Y0, O0, B0, z0⟩ := BT
 clear z0
 obtain ⟨x0, x1, x2, x3, x4, x5, x6⟩ := sixfl X0
 obtain ⟨y0, y1, y2, y3, y4, y5, y6⟩ := sixfl Y0
 go_wp2_with fail
 refine (unhide CM _ (unhide J0) (unhide K0)).mono ?_
 rintro e w1 ⟨rfl, k1⟩
 have X1 := VT.Six.below X0 k1
 have Y1 := VT.Six.below Y0 k1
 have O1 := Own.below O0 k1
 have B1 := bstep B0 k1
 clear k1 X0 Y0 O0 B0 J0 K0 CM x0 x1 x2 x3 x4 x5 x6 y0 y1 y2 y3 y4 y5 y6
 obtain ⟨x0, x1, x2, x3, x4, x5, x6⟩ := sixfl X1
 obtain ⟨y0, y1, y2, y3, y4, y5, y6⟩ := sixfl Y1
 go_wp2_with fail
 refine (rof_any _ _).mono ?_
 rintro e w2 ⟨rfl, k2⟩
 have O2 := Own.below O1 k2
 have B2 := bstep B1 k2
 clear k2 O1 B1
 unfold tval
 obtain ⟨u0, t0, t1, t2, t3, t4, t5, f0, f1, f2, f3, f4, f5⟩ := Own.fl O2
 go_wp2_with fail
 exact bodyPost_ret (v := lfv 1 (decide (R < 0)) 0 0 ⟨#[]⟩) zR20lt0t1t2t3t4t5 rfl ⟨rfl, zBL⟩
theorem rrel_len  (x y : VT) (w : World) (hk : kdV x = 2 ∧ kdV y = 2) (hx : x.okB 2 = true) (hy : y.okB 2 = true) (hin : x.In w) (hin' : y.In w) :
  Calls Tryz.prog 20 #[.string ⟨([60, 61]).toArray⟩, x.val, y.val] w fun e w' => e = .returned (lfv 1 (decide (x.cmp y ≤ 0)) 0 0 ⟨#[]⟩) ∧ Below w.heap.size w w' := by
 obtain ⟨k, b, m, s, t, a, len, cap, kid, rfl⟩ := hin.form
 obtain ⟨k', b', m', s', t', a', len', cap', kid', rfl⟩ := hin'.form
 have CM := hide (fun w h h' => rCmp_any (VT.mk k b m s t a len cap kid) (VT.mk k' b' m' s' t' a' len' cap' kid') 2 2 w hx hy h h')
 have BT := boxes2 w k b m s t a len cap k' b' m' s' t' a' len' cap'
 have J0 := hide (hin.below BT.2.2.2.1)
 have K0 := hide (hin'.below BT.2.2.2.1)
 clear hin hin' hx hy
 show Calls Tryz.prog 20 #[.string ⟨([60, 61]).toArray⟩, .agg #[.int .i64 k, .bool b, .int .i64 m, .int .i64 s, .string t, .slice a len cap], .agg #[.int .i64 k', .bool b', .int .i64 m', .int .i64 s', .string t', .slice a' len' cap']] w _
 generalize (VT.mk k b m s t a len cap kid).cmp (VT.mk k' b' m' s' t' a' len' cap' kid') = R at *
 obtain ⟨hk1, hk2⟩ : k = 2 ∧ k' = 2 := hk
 subst hk1 hk2
 go_enter Tryz.func20, Tryz.ntmps20
 go_wp2_with fail
 generalize (((w.alloc (Obj.cells #[.int .i64 2, .bool b, .int .i64 m, .int .i64 s, .string t, .slice a len cap] 32)).alloc (Obj.cells #[.int .i64 2, .bool b', .int .i64 m', .int .i64 s', .string t', .slice a' len' cap'] 32)).alloc (Obj.cells #[.int .i64 0, .bool false, .int .i64 0, .int .i64 0, .string ⟨#[]⟩, .slice none 0 0] 32)) = V at *
 obtain ⟨X0, Y0, O0, B0, z0⟩ := BT
 clear z0
 obtain ⟨x0, x1, x2, x3, x4, x5, x6⟩ := sixfl X0
 obtain ⟨y0, y1, y2, y3, y4, y5, y6⟩ := sixfl Y0
 go_wp2_with fail
 refine (unhide CM _ (unhide J0) (unhide K0)).mono ?_
 rintro e w1 ⟨rfl, k1⟩
 have X1 := VT.Six.below X0 k1
 have Y1 := VT.Six.below Y0 k1
 have O1 := Own.below O0 k1
 have B1 := bstep B0 k1
 clear k1 X0 Y0 O0 B0 J0 K0 CM x0 x1 x2 x3 x4 x5 x6 y0 y1 y2 y3 y4 y5 y6
 obtain ⟨x0, x1, x2, x3, x4, x5, x6⟩ := sixfl X1
 obtain ⟨y0, y1, y2, y3, y4, y5, y6⟩ := sixfl Y1
 go_wp2_with fail
 refine (rof_any _ _).mono ?_
 rintro e w2 ⟨rfl, k2⟩
 have O2 := Own.below O1 k2
 have B2 := bstep B1 k2
 clear k2 O1 B1
 unfold tval
 obtain ⟨u0, t0, t1, t2, t3, t4, t5, f0, f1, f2, f3, f4, f5⟩ := Own.fl O2
 go_wp2_with fail
 exact bodyPost_ret (v := lfv 1 (decide (R ≤ 0)) 0 0 ⟨#[]⟩) zR20lt0t1t2t3t4t5 rfl ⟨rfl, zBL⟩
theorem rrel_let  (x y : VT) (w : World) (hk : kdV x = 3 ∧ kdV y = 3) (hx : x.okB 2 = true) (hy : y.okB 2 = true) (hin : x.In w) (hin' : y.In w) :
  Calls Tryz.prog 20 #[.string ⟨([60, 61]).toArray⟩, x.val, y.val] w fun e w' => e = .returned (lfv 1 (decide (x.cmp y ≤ 0)) 0 0 ⟨#[]⟩) ∧ Below w.heap.size w w' := by
 obtain ⟨k, b, m, s, t, a, len, cap, kid, rfl⟩ := hin.form
 obtain ⟨k', b', m', s', t', a', len', cap', kid', rfl⟩ := hin'.form
 have CM := hide (fun w h h' => rCmp_any (VT.mk k b m s t a len cap kid) (VT.mk k' b' m' s' t' a' len' cap' kid') 2 2 w hx hy h h')
 have BT := boxes2 w k b m s t a len cap k' b' m' s' t' a' len' cap'
 have J0 := hide (hin.below BT.2.2.2.1)
 have K0 := hide (hin'.below BT.2.2.2.1)
 clear hin hin' hx hy
 show Calls Tryz.prog 20 #[.string ⟨([60, 61]).toArray⟩, .agg #[.int .i64 k, .bool b, .int .i64 m, .int .i64 s, .string t, .slice a len cap], .agg #[.int .i64 k', .bool b', .int .i64 m', .int .i64 s', .string t', .slice a' len' cap']] w _
 generalize (VT.mk k b m s t a len cap kid).cmp (VT.mk k' b' m' s' t' a' len' cap' kid') = R at *
 obtain ⟨hk1, hk2⟩ : k = 3 ∧ k' = 3 := hk
 subst hk1 hk2
 go_enter Tryz.func20, Tryz.ntmps20
 go_wp2_with fail
 generalize (((w.alloc (Obj.cells #[.int .i64 3, .bool b, .int .i64 m, .int .i64 s, .string t, .slice a len cap] 32)).alloc (Obj.cells #[.int .i64 3, .bool b', .int .i64 m', .int .i64 s', .string t', .slice a' len' cap'] 32)).alloc (Obj.cells #[.int .i64 0, .bool false, .int .i64 0, .int .i64 0, .string ⟨#[]⟩, .slice none 0 0] 32)) = V at *
 obtain ⟨X0, Y0, O0, B0, z0⟩ := BT
 clear z0
 obtain ⟨x0, x1, x2, x3, x4, x5, x6⟩ := sixfl X0
 obtain ⟨y0, y1, y2, y3, y4, y5, y6⟩ := sixfl Y0
 go_wp2_with fail
 refine (unhide CM _ (unhide J0) (unhide K0)).mono ?_
 rintro e w1 ⟨rfl, k1⟩
 have X1 := VT.Six.below X0 k1
 have Y1 := VT.Six.below Y0 k1
 have O1 := Own.below O0 k1
 have B1 := bstep B0 k1
 clear k1 X0 Y0 O0 B0 J0 K0 CM x0 x1 x2 x3 x4 x5 x6 y0 y1 y2 y3 y4 y5 y6
 obtain ⟨x0, x1, x2, x3, x4, x5, x6⟩ := sixfl X1
 obtain ⟨y0, y1, y2, y3, y4, y5, y6⟩ := sixfl Y1
 go_wp2_with fail
 refine (rof_any _ _).mono ?_
 rintro e w2 ⟨rfl, k2⟩
 have O2 := Own.below O1 k2
 have B2 := bstep B1 k2
 clear k2 O1 B1
 unfold tval
 obtain ⟨u0, t0, t1, t2, t3, t4, t5, f0, f1, f2, f3, f4, f5⟩ := Own.fl O2
 go_wp2_with fail
 exact bodyPost_ret (v := lfv 1 (decide (R ≤ 0)) 0 0 ⟨#[]⟩) zR20lt0t1t2t3t4t5 rfl ⟨rfl, zBL⟩
theorem rrel_gtn  (x y : VT) (w : World) (hk : kdV x = 2 ∧ kdV y = 2) (hx : x.okB 2 = true) (hy : y.okB 2 = true) (hin : x.In w) (hin' : y.In w) :
  Calls Tryz.prog 20 #[.string ⟨([62]).toArray⟩, x.val, y.val] w fun e w' => e = .returned (lfv 1 (decide (0 < x.cmp y)) 0 0 ⟨#[]⟩) ∧ Below w.heap.size w w' := by
 obtain ⟨k, b, m, s, t, a, len, cap, kid, rfl⟩ := hin.form
 obtain ⟨k', b', m', s', t', a', len', cap', kid', rfl⟩ := hin'.form
 have CM := hide (fun w h h' => rCmp_any (VT.mk k b m s t a len cap kid) (VT.mk k' b' m' s' t' a' len' cap' kid') 2 2 w hx hy h h')
 have BT := boxes2 w k b m s t a len cap k' b' m' s' t' a' len' cap'
 have J0 := hide (hin.below BT.2.2.2.1)
 have K0 := hide (hin'.below BT.2.2.2.1)
 clear hin hin' hx hy
 show Calls Tryz.prog 20 #[.string ⟨([62]).toArray⟩, .agg #[.int .i64 k, .bool b, .int .i64 m, .int .i64 s, .string t, .slice a len cap], .agg #[.int .i64 k', .bool b', .int .i64 m', .int .i64 s', .string t', .slice a' len' cap']] w _
 generalize (VT.mk k b m s t a len cap kid).cmp (VT.mk k' b' m' s' t' a' len' cap' kid') = R at *
 obtain ⟨hk1, hk2⟩ : k = 2 ∧ k' = 2 := hk
 subst hk1 hk2
 go_enter Tryz.func20, Tryz.ntmps20
 go_wp2_with fail
 generalize (((w.alloc (Obj.cells #[.int .i64 2, .bool b, .int .i64 m, .int .i64 s, .string t, .slice a len cap] 32)).alloc (Obj.cells #[.int .i64 2, .bool b', .int .i64 m', .int .i64 s', .string t', .slice a' len' cap'] 32)).alloc (Obj.cells #[.int .i64 0, .bool false, .int .i64 0, .int .i64 0, .string ⟨#[]⟩, .slice none 0 0] 32)) = V at *
 obtain ⟨X0, Y0, O0, B0, z0⟩ := BT
 clear z0
 obtain ⟨x0, x1, x2, x3, x4, x5, x6⟩ := sixfl X0
 obtain ⟨y0, y1, y2, y3, y4, y5, y6⟩ := sixfl Y0
 go_wp2_with fail
 refine (unhide CM _ (unhide J0) (unhide K0)).mono ?_
 rintro e w1 ⟨rfl, k1⟩
 have X1 := VT.Six.below X0 k1
 have Y1 := VT.Six.below Y0 k1
 have O1 := Own.below O0 k1
 have B1 := bstep B0 k1
 clear k1 X0 Y0 O0 B0 J0 K0 CM x0 x1 x2 x3 x4 x5 x6 y0 y1 y2 y3 y4 y5 y6
 obtain ⟨x0, x1, x2, x3, x4, x5, x6⟩ := sixfl X1
 obtain ⟨y0, y1, y2, y3, y4, y5, y6⟩ := sixfl Y1
 go_wp2_with fail
 refine (rof_any _ _).mono ?_
 rintro e w2 ⟨rfl, k2⟩
 have O2 := Own.below O1 k2
 have B2 := bstep B1 k2
 clear k2 O1 B1
 unfold tval
 obtain ⟨u0, t0, t1, t2, t3, t4, t5, f0, f1, f2, f3, f4, f5⟩ := Own.fl O2
 go_wp2_with fail
 exact bodyPost_ret (v := lfv 1 (decide (0 < R)) 0 0 ⟨#[]⟩) zR20lt0t1t2t3t4t5 rfl ⟨rfl, zBL⟩
theorem rrel_gtt  (x y : VT) (w : World) (hk : kdV x = 3 ∧ kdV y = 3) (hx : x.okB 2 = true) (hy : y.okB 2 = true) (hin : x.In w) (hin' : y.In w) :
  Calls Tryz.prog 20 #[.string ⟨([62]).toArray⟩, x.val, y.val] w fun e w' => e = .returned (lfv 1 (decide (0 < x.cmp y)) 0 0 ⟨#[]⟩) ∧ Below w.heap.size w w' := by
 obtain ⟨k, b, m, s, t, a, len, cap, kid, rfl⟩ := hin.form
 obtain ⟨k', b', m', s', t', a', len', cap', kid', rfl⟩ := hin'.form
 have CM := hide (fun w h h' => rCmp_any (VT.mk k b m s t a len cap kid) (VT.mk k' b' m' s' t' a' len' cap' kid') 2 2 w hx hy h h')
 have BT := boxes2 w k b m s t a len cap k' b' m' s' t' a' len' cap'
 have J0 := hide (hin.below BT.2.2.2.1)
 have K0 := hide (hin'.below BT.2.2.2.1)
 clear hin hin' hx hy
 show Calls Tryz.prog 20 #[.string ⟨([62]).toArray⟩, .agg #[.int .i64 k, .bool b, .int .i64 m, .int .i64 s, .string t, .slice a len cap], .agg #[.int .i64 k', .bool b', .int .i64 m', .int .i64 s', .string t', .slice a' len' cap']] w _
 generalize (VT.mk k b m s t a len cap kid).cmp (VT.mk k' b' m' s' t' a' len' cap' kid') = R at *
 obtain ⟨hk1, hk2⟩ : k = 3 ∧ k' = 3 := hk
 subst hk1 hk2
 go_enter Tryz.func20, Tryz.ntmps20
 go_wp2_with fail
 generalize (((w.alloc (Obj.cells #[.int .i64 3, .bool b, .int .i64 m, .int .i64 s, .string t, .slice a len cap] 32)).alloc (Obj.cells #[.int .i64 3, .bool b', .int .i64 m', .int .i64 s', .string t', .slice a' len' cap'] 32)).alloc (Obj.cells #[.int .i64 0, .bool false, .int .i64 0, .int .i64 0, .string ⟨#[]⟩, .slice none 0 0] 32)) = V at *
 obtain ⟨X0, Y0, O0, B0, z0⟩ := BT
 clear z0
 obtain ⟨x0, x1, x2, x3, x4, x5, x6⟩ := sixfl X0
 obtain ⟨y0, y1, y2, y3, y4, y5, y6⟩ := sixfl Y0
 go_wp2_with fail
 refine (unhide CM _ (unhide J0) (unhide K0)).mono ?_
 rintro e w1 ⟨rfl, k1⟩
 have X1 := VT.Six.below X0 k1
 have Y1 := VT.Six.below Y0 k1
 have O1 := Own.below O0 k1
 have B1 := bstep B0 k1
 clear k1 X0 Y0 O0 B0 J0 K0 CM x0 x1 x2 x3 x4 x5 x6 y0 y1 y2 y3 y4 y5 y6
 obtain ⟨x0, x1, x2, x3, x4, x5, x6⟩ := sixfl X1
 obtain ⟨y0, y1, y2, y3, y4, y5, y6⟩ := sixfl Y1
 go_wp2_with fail
 refine (rof_any _ _).mono ?_
 rintro e w2 ⟨rfl, k2⟩
 have O2 := Own.below O1 k2
 have B2 := bstep B1 k2
 clear k2 O1 B1
 unfold tval
 obtain ⟨u0, t0, t1, t2, t3, t4, t5, f0, f1, f2, f3, f4, f5⟩ := Own.fl O2
 go_wp2_with fail
 exact bodyPost_ret (v := lfv 1 (decide (0 < R)) 0 0 ⟨#[]⟩) zR20lt0t1t2t3t4t5 rfl ⟨rfl, zBL⟩
theorem rrel_gen  (x y : VT) (w : World) (hk : kdV x = 2 ∧ kdV y = 2) (hx : x.okB 2 = true) (hy : y.okB 2 = true) (hin : x.In w) (hin' : y.In w) :
  Calls Tryz.prog 20 #[.string ⟨([62, 61]).toArray⟩, x.val, y.val] w fun e w' => e = .returned (lfv 1 (decide (0 ≤ x.cmp y)) 0 0 ⟨#[]⟩) ∧ Below w.heap.size w w' := by
 obtain ⟨k, b, m, s, t, a, len, cap, kid, rfl⟩ := hin.form
 obtain ⟨k', b', m', s', t', a', len', cap', kid', rfl⟩ := hin'.form
 have CM := hide (fun w h h' => rCmp_any (VT.mk k b m s t a len cap kid) (VT.mk k' b' m' s' t' a' len' cap' kid') 2 2 w hx hy h h')
 have BT := boxes2 w k b m s t a len cap k' b' m' s' t' a' len' cap'
 have J0 := hide (hin.below BT.2.2.2.1)
 have K0 := hide (hin'.below BT.2.2.2.1)
 clear hin hin' hx hy
 show Calls Tryz.prog 20 #[.string ⟨([62, 61]).toArray⟩, .agg #[.int .i64 k, .bool b, .int .i64 m, .int .i64 s, .string t, .slice a len cap], .agg #[.int .i64 k', .bool b', .int .i64 m', .int .i64 s', .string t', .slice a' len' cap']] w _
 generalize (VT.mk k b m s t a len cap kid).cmp (VT.mk k' b' m' s' t' a' len' cap' kid') = R at *
 obtain ⟨hk1, hk2⟩ : k = 2 ∧ k' = 2 := hk
 subst hk1 hk2
 go_enter Tryz.func20, Tryz.ntmps20
 go_wp2_with fail
 generalize (((w.alloc (Obj.cells #[.int .i64 2, .bool b, .int .i64 m, .int .i64 s, .string t, .slice a len cap] 32)).alloc (Obj.cells #[.int .i64 2, .bool b', .int .i64 m', .int .i64 s', .string t', .slice a' len' cap'] 32)).alloc (Obj.cells #[.int .i64 0, .bool false, .int .i64 0, .int .i64 0, .string ⟨#[]⟩, .slice none 0 0] 32)) = V at *
 obtain ⟨X0, Y0, O0, B0, z0⟩ := BT
 clear z0
 obtain ⟨x0, x1, x2, x3, x4, x5, x6⟩ := sixfl X0
 obtain ⟨y0, y1, y2, y3, y4, y5, y6⟩ := sixfl Y0
 go_wp2_with fail
 refine (unhide CM _ (unhide J0) (unhide K0)).mono ?_
 rintro e w1 ⟨rfl, k1⟩
 have X1 := VT.Six.below X0 k1
 have Y1 := VT.Six.below Y0 k1
 have O1 := Own.below O0 k1
 have B1 := bstep B0 k1
 clear k1 X0 Y0 O0 B0 J0 K0 CM x0 x1 x2 x3 x4 x5 x6 y0 y1 y2 y3 y4 y5 y6
 obtain ⟨x0, x1, x2, x3, x4, x5, x6⟩ := sixfl X1
 obtain ⟨y0, y1, y2, y3, y4, y5, y6⟩ := sixfl Y1
 go_wp2_with fail
 refine (rof_any _ _).mono ?_
 rintro e w2 ⟨rfl, k2⟩
 have O2 := Own.below O1 k2
 have B2 := bstep B1 k2
 clear k2 O1 B1
 unfold tval
 obtain ⟨u0, t0, t1, t2, t3, t4, t5, f0, f1, f2, f3, f4, f5⟩ := Own.fl O2
 go_wp2_with fail
 exact bodyPost_ret (v := lfv 1 (decide (0 ≤ R)) 0 0 ⟨#[]⟩) zR20lt0t1t2t3t4t5 rfl ⟨rfl, zBL⟩
theorem rrel_get  (x y : VT) (w : World) (hk : kdV x = 3 ∧ kdV y = 3) (hx : x.okB 2 = true) (hy : y.okB 2 = true) (hin : x.In w) (hin' : y.In w) :
  Calls Tryz.prog 20 #[.string ⟨([62, 61]).toArray⟩, x.val, y.val] w fun e w' => e = .returned (lfv 1 (decide (0 ≤ x.cmp y)) 0 0 ⟨#[]⟩) ∧ Below w.heap.size w w' := by
 obtain ⟨k, b, m, s, t, a, len, cap, kid, rfl⟩ := hin.form
 obtain ⟨k', b', m', s', t', a', len', cap', kid', rfl⟩ := hin'.form
 have CM := hide (fun w h h' => rCmp_any (VT.mk k b m s t a len cap kid) (VT.mk k' b' m' s' t' a' len' cap' kid') 2 2 w hx hy h h')
 have BT := boxes2 w k b m s t a len cap k' b' m' s' t' a' len' cap'
 have J0 := hide (hin.below BT.2.2.2.1)
 have K0 := hide (hin'.below BT.2.2.2.1)
 clear hin hin' hx hy
 show Calls Tryz.prog 20 #[.string ⟨([62, 61]).toArray⟩, .agg #[.int .i64 k, .bool b, .int .i64 m, .int .i64 s, .string t, .slice a len cap], .agg #[.int .i64 k', .bool b', .int .i64 m', .int .i64 s', .string t', .slice a' len' cap']] w _
 generalize (VT.mk k b m s t a len cap kid).cmp (VT.mk k' b' m' s' t' a' len' cap' kid') = R at *
 obtain ⟨hk1, hk2⟩ : k = 3 ∧ k' = 3 := hk
 subst hk1 hk2
 go_enter Tryz.func20, Tryz.ntmps20
 go_wp2_with fail
 generalize (((w.alloc (Obj.cells #[.int .i64 3, .bool b, .int .i64 m, .int .i64 s, .string t, .slice a len cap] 32)).alloc (Obj.cells #[.int .i64 3, .bool b', .int .i64 m', .int .i64 s', .string t', .slice a' len' cap'] 32)).alloc (Obj.cells #[.int .i64 0, .bool false, .int .i64 0, .int .i64 0, .string ⟨#[]⟩, .slice none 0 0] 32)) = V at *
 obtain ⟨X0, Y0, O0, B0, z0⟩ := BT
 clear z0
 obtain ⟨x0, x1, x2, x3, x4, x5, x6⟩ := sixfl X0
 obtain ⟨y0, y1, y2, y3, y4, y5, y6⟩ := sixfl Y0
 go_wp2_with fail
 refine (unhide CM _ (unhide J0) (unhide K0)).mono ?_
 rintro e w1 ⟨rfl, k1⟩
 have X1 := VT.Six.below X0 k1
 have Y1 := VT.Six.below Y0 k1
 have O1 := Own.below O0 k1
 have B1 := bstep B0 k1
 clear k1 X0 Y0 O0 B0 J0 K0 CM x0 x1 x2 x3 x4 x5 x6 y0 y1 y2 y3 y4 y5 y6
 obtain ⟨x0, x1, x2, x3, x4, x5, x6⟩ := sixfl X1
 obtain ⟨y0, y1, y2, y3, y4, y5, y6⟩ := sixfl Y1
 go_wp2_with fail
 refine (rof_any _ _).mono ?_
 rintro e w2 ⟨rfl, k2⟩
 have O2 := Own.below O1 k2
 have B2 := bstep B1 k2
 clear k2 O1 B1
 unfold tval
 obtain ⟨u0, t0, t1, t2, t3, t4, t5, f0, f1, f2, f3, f4, f5⟩ := Own.fl O2
 go_wp2_with fail
 exact bodyPost_ret (v := lfv 1 (decide (0 ≤ R)) 0 0 ⟨#[]⟩) zR20lt0t1t2t3t4t5 rfl ⟨rfl, zBL⟩
theorem rrel_non (l : List UInt8) (q1 : (l == [61]) = false) (q2 : (l == [33, 61]) = false) (q3 : (l == [60]) = false) (q4 : (l == [60, 61]) = false) (q5 : (l == [62]) = false) (q6 : (l == [62, 61]) = false) (x y : VT) (w : World) (hk : kdV x = 2 ∧ kdV y = 2) (hx : x.okB 2 = true) (hy : y.okB 2 = true) (hin : x.In w) (hin' : y.In w) :
  Calls Tryz.prog 20 #[.string ⟨(l).toArray⟩, x.val, y.val] w fun e w' => e = .returned (lfv 0 false 0 0 ⟨#[]⟩) ∧ Below w.heap.size w w' := by
 obtain ⟨k, b, m, s, t, a, len, cap, kid, rfl⟩ := hin.form
 obtain ⟨k', b', m', s', t', a', len', cap', kid', rfl⟩ := hin'.form
 have CM := hide (fun w h h' => rCmp_any (VT.mk k b m s t a len cap kid) (VT.mk k' b' m' s' t' a' len' cap' kid') 2 2 w hx hy h h')
 have BT := boxes2 w k b m s t a len cap k' b' m' s' t' a' len' cap'
 have J0 := hide (hin.below BT.2.2.2.1)
 have K0 := hide (hin'.below BT.2.2.2.1)
 clear hin hin' hx hy
 show Calls Tryz.prog 20 #[.string ⟨(l).toArray⟩, .agg #[.int .i64 k, .bool b, .int .i64 m, .int .i64 s, .string t, .slice a len cap], .agg #[.int .i64 k', .bool b', .int .i64 m', .int .i64 s', .string t', .slice a' len' cap']] w _
 generalize (VT.mk k b m s t a len cap kid).cmp (VT.mk k' b' m' s' t' a' len' cap' kid') = R at *
 obtain ⟨hk1, hk2⟩ : k = 2 ∧ k' = 2 := hk
 subst hk1 hk2
 go_enter Tryz.func20, Tryz.ntmps20
 go_wp2_with fail
 generalize (((w.alloc (Obj.cells #[.int .i64 2, .bool b, .int .i64 m, .int .i64 s, .string t, .slice a len cap] 32)).alloc (Obj.cells #[.int .i64 2, .bool b', .int .i64 m', .int .i64 s', .string t', .slice a' len' cap'] 32)).alloc (Obj.cells #[.int .i64 0, .bool false, .int .i64 0, .int .i64 0, .string ⟨#[]⟩, .slice none 0 0] 32)) = V at *
 obtain ⟨X0, Y0, O0, B0, z0⟩ := BT
 clear z0
 obtain ⟨x0, x1, x2, x3, x4, x5, x6⟩ := sixfl X0
 obtain ⟨y0, y1, y2, y3, y4, y5, y6⟩ := sixfl Y0
 go_wp2_with fail
 refine (unhide CM _ (unhide J0) (unhide K0)).mono ?_
 rintro e w1 ⟨rfl, k1⟩
 have X1 := VT.Six.below X0 k1
 have Y1 := VT.Six.below Y0 k1
 have O1 := Own.below O0 k1
 have B1 := bstep B0 k1
 clear k1 X0 Y0 O0 B0 J0 K0 CM x0 x1 x2 x3 x4 x5 x6 y0 y1 y2 y3 y4 y5 y6
 obtain ⟨x0, x1, x2, x3, x4, x5, x6⟩ := sixfl X1
 obtain ⟨y0, y1, y2, y3, y4, y5, y6⟩ := sixfl Y1
 obtain ⟨u0, t0, t1, t2, t3, t4, t5, f0, f1, f2, f3, f4, f5⟩ := Own.fl O1
 go_wp2_with fail
 exact bodyPost_ret (v := lfv 0 false 0 0 ⟨#[]⟩) zR20lt0t1t2t3t4t5 rfl ⟨rfl, zBL⟩
theorem rrel_not (l : List UInt8) (q1 : (l == [61]) = false) (q2 : (l == [33, 61]) = false) (q3 : (l == [60]) = false) (q4 : (l == [60, 61]) = false) (q5 : (l == [62]) = false) (q6 : (l == [62, 61]) = false) (x y : VT) (w : World) (hk : kdV x = 3 ∧ kdV y = 3) (hx : x.okB 2 = true) (hy : y.okB 2 = true) (hin : x.In w) (hin' : y.In w) :
  Calls Tryz.prog 20 #[.string ⟨(l).toArray⟩, x.val, y.val] w fun e w' => e = .returned (lfv 0 false 0 0 ⟨#[]⟩) ∧ Below w.heap.size w w' := by
 obtain ⟨k, b, m, s, t, a, len, cap, kid, rfl⟩ := hin.form
 obtain ⟨k', b', m', s', t', a', len', cap', kid', rfl⟩ := hin'.form
 have CM := hide (fun w h h' => rCmp_any (VT.mk k b m s t a len cap kid) (VT.mk k' b' m' s' t' a' len' cap' kid') 2 2 w hx hy h h')
 have BT := boxes2 w k b m s t a len cap k' b' m' s' t' a' len' cap'
 have J0 := hide (hin.below BT.2.2.2.1)
 have K0 := hide (hin'.below BT.2.2.2.1)
 clear hin hin' hx hy
 show Calls Tryz.prog 20 #[.string ⟨(l).toArray⟩, .agg #[.int .i64 k, .bool b, .int .i64 m, .int .i64 s, .string t, .slice a len cap], .agg #[.int .i64 k', .bool b', .int .i64 m', .int .i64 s', .string t', .slice a' len' cap']] w _
 generalize (VT.mk k b m s t a len cap kid).cmp (VT.mk k' b' m' s' t' a' len' cap' kid') = R at *
 obtain ⟨hk1, hk2⟩ : k = 3 ∧ k' = 3 := hk
 subst hk1 hk2
 go_enter Tryz.func20, Tryz.ntmps20
 go_wp2_with fail
 generalize (((w.alloc (Obj.cells #[.int .i64 3, .bool b, .int .i64 m, .int .i64 s, .string t, .slice a len cap] 32)).alloc (Obj.cells #[.int .i64 3, .bool b', .int .i64 m', .int .i64 s', .string t', .slice a' len' cap'] 32)).alloc (Obj.cells #[.int .i64 0, .bool false, .int .i64 0, .int .i64 0, .string ⟨#[]⟩, .slice none 0 0] 32)) = V at *
 obtain ⟨X0, Y0, O0, B0, z0⟩ := BT
 clear z0
 obtain ⟨x0, x1, x2, x3, x4, x5, x6⟩ := sixfl X0
 obtain ⟨y0, y1, y2, y3, y4, y5, y6⟩ := sixfl Y0
 go_wp2_with fail
 refine (unhide CM _ (unhide J0) (unhide K0)).mono ?_
 rintro e w1 ⟨rfl, k1⟩
 have X1 := VT.Six.below X0 k1
 have Y1 := VT.Six.below Y0 k1
 have O1 := Own.below O0 k1
 have B1 := bstep B0 k1
 clear k1 X0 Y0 O0 B0 J0 K0 CM x0 x1 x2 x3 x4 x5 x6 y0 y1 y2 y3 y4 y5 y6
 obtain ⟨x0, x1, x2, x3, x4, x5, x6⟩ := sixfl X1
 obtain ⟨y0, y1, y2, y3, y4, y5, y6⟩ := sixfl Y1
 obtain ⟨u0, t0, t1, t2, t3, t4, t5, f0, f1, f2, f3, f4, f5⟩ := Own.fl O1
 go_wp2_with fail
 exact bodyPost_ret (v := lfv 0 false 0 0 ⟨#[]⟩) zR20lt0t1t2t3t4t5 rfl ⟨rfl, zBL⟩
theorem rrel_un (l : List UInt8) (q1 : (l == [61]) = false) (q2 : (l == [33, 61]) = false) (x y : VT) (w : World) (hk : ¬ ((kdV x = 2 ∧ kdV y = 2) ∨ (kdV x = 3 ∧ kdV y = 3))) (hx : x.okB 2 = true) (hy : y.okB 2 = true) (hin : x.In w) (hin' : y.In w) :
  Calls Tryz.prog 20 #[.string ⟨(l).toArray⟩, x.val, y.val] w fun e w' => e = .returned (lfv 0 false 0 0 ⟨#[]⟩) ∧ Below w.heap.size w w' := by
 obtain ⟨k, b, m, s, t, a, len, cap, kid, rfl⟩ := hin.form
 obtain ⟨k', b', m', s', t', a', len', cap', kid', rfl⟩ := hin'.form
 have CM := hide (fun w h h' => rCmp_any (VT.mk k b m s t a len cap kid) (VT.mk k' b' m' s' t' a' len' cap' kid') 2 2 w hx hy h h')
 have BT := boxes2 w k b m s t a len cap k' b' m' s' t' a' len' cap'
 have J0 := hide (hin.below BT.2.2.2.1)
 have K0 := hide (hin'.below BT.2.2.2.1)
 clear hin hin' hx hy
 show Calls Tryz.prog 20 #[.string ⟨(l).toArray⟩, .agg #[.int .i64 k, .bool b, .int .i64 m, .int .i64 s, .string t, .slice a len cap], .agg #[.int .i64 k', .bool b', .int .i64 m', .int .i64 s', .string t', .slice a' len' cap']] w _
 generalize (VT.mk k b m s t a len cap kid).cmp (VT.mk k' b' m' s' t' a' len' cap' kid') = R at *
 have hk : ¬ ((k = 2 ∧ k' = 2) ∨ (k = 3 ∧ k' = 3)) := hk
 have e1 : (k != k' || k != 2 && k != 3) = true := by
  by_cases h : k = k'
  ·subst h; simp; omega
  ·simp [h]
 clear hk
 by_cases h : k = k'
 ·subst h
  have e2 : (k != 2) = true := by simp at e1 ⊢; omega
  have e3 : (k != 3) = true := by simp at e1 ⊢; omega
  clear e1
  go_enter Tryz.func20, Tryz.ntmps20
  go_wp2_with fail
  generalize (((w.alloc (Obj.cells #[.int .i64 k, .bool b, .int .i64 m, .int .i64 s, .string t, .slice a len cap] 32)).alloc (Obj.cells #[.int .i64 k, .bool b', .int .i64 m', .int .i64 s', .string t', .slice a' len' cap'] 32)).alloc (Obj.cells #[.int .i64 0, .bool false, .int .i64 0, .int .i64 0, .string ⟨#[]⟩, .slice none 0 0] 32)) = V at *
  obtain ⟨X0, Y0, O0, B0, z0⟩ := BT
  clear z0
  obtain ⟨x0, x1, x2, x3, x4, x5, x6⟩ := sixfl X0
  obtain ⟨y0, y1, y2, y3, y4, y5, y6⟩ := sixfl Y0
  go_wp2_with fail
  refine (unhide CM _ (unhide J0) (unhide K0)).mono ?_
  rintro e w1 ⟨rfl, k1⟩
  have X1 := VT.Six.below X0 k1
  have Y1 := VT.Six.below Y0 k1
  have O1 := Own.below O0 k1
  have B1 := bstep B0 k1
  clear k1 X0 Y0 O0 B0 J0 K0 CM x0 x1 x2 x3 x4 x5 x6 y0 y1 y2 y3 y4 y5 y6
  obtain ⟨x0, x1, x2, x3, x4, x5, x6⟩ := sixfl X1
  obtain ⟨y0, y1, y2, y3, y4, y5, y6⟩ := sixfl Y1
  obtain ⟨u0, t0, t1, t2, t3, t4, t5, f0, f1, f2, f3, f4, f5⟩ := Own.fl O1
  go_wp2_with fail
  exact bodyPost_ret (v := lfv 0 false 0 0 ⟨#[]⟩) zR20lt0t1t2t3t4t5 rfl ⟨rfl, zBL⟩
 ·have e2 : (k != k') = true := by simp [h]
  clear e1 h
  go_enter Tryz.func20, Tryz.ntmps20
  go_wp2_with fail
  generalize (((w.alloc (Obj.cells #[.int .i64 k, .bool b, .int .i64 m, .int .i64 s, .string t, .slice a len cap] 32)).alloc (Obj.cells #[.int .i64 k', .bool b', .int .i64 m', .int .i64 s', .string t', .slice a' len' cap'] 32)).alloc (Obj.cells #[.int .i64 0, .bool false, .int .i64 0, .int .i64 0, .string ⟨#[]⟩, .slice none 0 0] 32)) = V at *
  obtain ⟨X0, Y0, O0, B0, z0⟩ := BT
  clear z0
  obtain ⟨x0, x1, x2, x3, x4, x5, x6⟩ := sixfl X0
  obtain ⟨y0, y1, y2, y3, y4, y5, y6⟩ := sixfl Y0
  go_wp2_with fail
  refine (unhide CM _ (unhide J0) (unhide K0)).mono ?_
  rintro e w1 ⟨rfl, k1⟩
  have X1 := VT.Six.below X0 k1
  have Y1 := VT.Six.below Y0 k1
  have O1 := Own.below O0 k1
  have B1 := bstep B0 k1
  clear k1 X0 Y0 O0 B0 J0 K0 CM x0 x1 x2 x3 x4 x5 x6 y0 y1 y2 y3 y4 y5 y6
  obtain ⟨x0, x1, x2, x3, x4, x5, x6⟩ := sixfl X1
  obtain ⟨y0, y1, y2, y3, y4, y5, y6⟩ := sixfl Y1
  obtain ⟨u0, t0, t1, t2, t3, t4, t5, f0, f1, f2, f3, f4, f5⟩ := Own.fl O1
  go_wp2_with fail
  exact bodyPost_ret (v := lfv 0 false 0 0 ⟨#[]⟩) zR20lt0t1t2t3t4t5 rfl ⟨rfl, zBL⟩
theorem rrel_any (l : List UInt8) (x y : VT) (w : World) (hx : x.okB 2 = true) (hy : y.okB 2 = true) (hin : x.In w) (hin' : y.In w) :
  Calls Tryz.prog 20 #[.string ⟨l.toArray⟩, x.val, y.val] w fun e w' => e = .returned (relT l x y).val ∧ Below w.heap.size w w' := by
 unfold relT
 by_cases h1 : l = [61]
 ·subst h1; rw [if_pos rfl]; exact rrel_eq x y w hx hy hin hin'
 rw [if_neg h1]
 by_cases h2 : l = [33, 61]
 ·subst h2; rw [if_pos rfl]; exact rrel_ne x y w hx hy hin hin'
 rw [if_neg h2]
 by_cases hk : (kdV x = 2 ∧ kdV y = 2) ∨ (kdV x = 3 ∧ kdV y = 3)
 ·rw [if_pos hk]
  by_cases h3 : l = [60]
  ·subst h3; rw [if_pos rfl]; rcases hk with hk | hk; exact rrel_ltn x y w hk hx hy hin hin'; exact rrel_ltt x y w hk hx hy hin hin'
  rw [if_neg h3]
  by_cases h4 : l = [60, 61]
  ·subst h4; rw [if_pos rfl]; rcases hk with hk | hk; exact rrel_len x y w hk hx hy hin hin'; exact rrel_let x y w hk hx hy hin hin'
  rw [if_neg h4]
  by_cases h5 : l = [62]
  ·subst h5; rw [if_pos rfl]; rcases hk with hk | hk; exact rrel_gtn x y w hk hx hy hin hin'; exact rrel_gtt x y w hk hx hy hin hin'
  rw [if_neg h5]
  by_cases h6 : l = [62, 61]
  ·subst h6; rw [if_pos rfl]; rcases hk with hk | hk; exact rrel_gen x y w hk hx hy hin hin'; exact rrel_get x y w hk hx hy hin hin'
  rw [if_neg h6]
  have q1 : (l == [61]) = false := by simpa using h1
  have q2 : (l == [33, 61]) = false := by simpa using h2
  have q3 : (l == [60]) = false := by simpa using h3
  have q4 : (l == [60, 61]) = false := by simpa using h4
  have q5 : (l == [62]) = false := by simpa using h5
  have q6 : (l == [62, 61]) = false := by simpa using h6
  rcases hk with hk | hk
  ·exact rrel_non l q1 q2 q3 q4 q5 q6 x y w hk hx hy hin hin'
  ·exact rrel_not l q1 q2 q3 q4 q5 q6 x y w hk hx hy hin hin'
 ·rw [if_neg hk]
  exact rrel_un l (by simpa using h1) (by simpa using h2) x y w hk hx hy hin hin'
end
section
open VT (leaf mkV)
theorem rallE_any (q : Int) (a : Option Addr) (cap : Nat) (l : List VT) (w : World) (hin : (rowT a cap l).In w) :
  Calls Tryz.prog 66 #[.slice a l.length cap, .int .i64 q] w fun e w' => e = .returned (.bool (l.all fun v => kdV v == q)) ∧ Below w.heap.size w w' := by
 have hlm : l.length ≤ maxLen := by have := hin.1; omega
 unfold maxLen at hlm
 generalize hR : (l.all fun v => kdV v == q) = R
 have HR : Hid ((l.drop 0).all (fun v => kdV v == q) = R) := by rw [List.drop_zero]; exact hR
 clear hR
 go_enter Tryz.func66, Tryz.ntmps66
 go_wp2_with fail
 go_loopw [5] (fun i wr => ∃ (j : Nat), j ≤ l.length ∧ i = .int .i64 j ∧ Hid ((l.drop j).all (fun v => kdV v == q) = R) ∧ Below w.heap.size w wr) (fun i _ => l.length - (intOf i).toNat)
 case atStart => exact ⟨0, Nat.zero_le _, rfl, HR, Below.refl _ _⟩
 case round =>
  clear HR
  obtain ⟨j, hj, rfl, HR, bel⟩ := hrel
  have zz := bel.size
  by_cases hlt : j < l.length
  ·obtain ⟨bl, o, k', b', m', s', t', a', len', cap', kid', rfl, hx, six, hk⟩ := hin.kid hlt
   try dsimp only at hx
   rw [drop_cons' hlt, List.all_cons, hx] at HR
   obtain ⟨s0, s1, s2, s3, s4, s5, s6⟩ := six.below bel
   clear six hk hin hx
   by_cases hq : k' = q
   ·subst hq
    have HR2 : Hid ((l.drop (j + 1)).all (fun v => kdV v == k') = R) := hide (by have := unhide HR; rw [show (kdV (VT.mk k' b' m' s' t' a' len' cap' kid') == k') = true by simp [kdV], Bool.true_and] at this; exact this)
    clear HR
    go_wp2_with fail
    go_roundw
    case rel => exact ⟨j + 1, by omega, by go_num, HR2, zBL⟩
    case measure => simp [intOf]; omega
   ·have HR2 : Hid (R = false) := hide (by have := unhide HR; rw [← this]; simp [kdV, hq])
    have e1 : (k' != q) = true := by simpa using hq
    clear HR hq
    go_wp2_with fail
    go_ret
    exact ⟨ret_bool (unhide HR2).symm, zBL⟩
  ·have HR2 : Hid (R = true) := by have := unhide HR; rw [List.drop_of_length_le (by omega)] at this; exact this.symm
   clear HR
   go_wp2_with fail
   go_ret
   exact ⟨ret_bool (unhide HR2).symm, zBL⟩
theorem rhasE_any (a : Option Addr) (cap : Nat) (l : List VT) (y : VT) (w : World) (hin : (rowT a cap l).In w) (hok : ∀ v ∈ l, v.okB 2 = true) (hyk : y.okB 2 = true) (hy : y.In w) :
  Calls Tryz.prog 69 #[.slice a l.length cap, y.val] w fun e w' => e = .returned (hasV l y).val ∧ Below w.heap.size w w' := by
 have hlm : l.length ≤ maxLen := by have := hin.1; omega
 unfold maxLen at hlm
 unfold hasV
 generalize hR : (l.any fun v => v.cmp y == 0) = R
 have HR : Hid ((l.drop 0).any (fun v => v.cmp y == 0) = R) := by rw [List.drop_zero]; exact hR
 clear hR
 obtain ⟨k, b, m, s, t, a2, len, cap2, kid, rfl⟩ := hy.form
 have BT := boxes1 w k b m s t a2 len cap2
 have hin1 := hin.below BT.2.2.1
 have HY := hide (hy.below BT.2.2.1)
 have HOK := hide hok
 have HYK := hide hyk
 clear hin hy hok hyk
 show Calls Tryz.prog 69 #[.slice a l.length cap, .agg #[.int .i64 k, .bool b, .int .i64 m, .int .i64 s, .string t, .slice a2 len cap2]] w _
 go_enter Tryz.func69, Tryz.ntmps69
 go_wp2_with fail
 generalize ((w.alloc (Obj.cells #[.int .i64 k, .bool b, .int .i64 m, .int .i64 s, .string t, .slice a2 len cap2] 32)).alloc (Obj.cells #[.int .i64 0, .bool false, .int .i64 0, .int .i64 0, .string ⟨#[]⟩, .slice none 0 0] 32)) = V at *
 obtain ⟨X0, O0, B0, z0⟩ := BT
 go_loopw [5] (fun i wr => ∃ (j : Nat), j ≤ l.length ∧ i = .int .i64 j ∧ Hid ((l.drop j).any (fun v => v.cmp (VT.mk k b m s t a2 len cap2 kid) == 0) = R) ∧ Below V.heap.size V wr) (fun i _ => l.length - (intOf i).toNat)
 case atStart => exact ⟨0, Nat.zero_le _, rfl, HR, Below.refl _ _⟩
 case round =>
  clear HR
  obtain ⟨j, hj, rfl, HR, bel⟩ := hrel
  have X1 := VT.Six.below X0 bel
  have O1 := Own.below O0 bel
  have B1 := bstep B0 bel
  have zz := bel.size
  by_cases hlt : j < l.length
  ·obtain ⟨bl, o, k', b', m', s', t', a', len', cap', kid', rfl, hx, six, hk⟩ := hin1.kid hlt
   try dsimp only at hx
   have hokj : (VT.mk k' b' m' s' t' a' len' cap' kid').okB 2 = true := by rw [← hx, getD_eq hlt]; exact unhide HOK _ (List.getElem_mem hlt)
   rw [drop_cons' hlt, List.any_cons, hx] at HR
   obtain ⟨s0, s1, s2, s3, s4, s5, s6⟩ := six.below bel
   have EQ := hide (fun u h h' => rEqual_any (VT.mk k' b' m' s' t' a' len' cap' kid') (VT.mk k b m s t a2 len cap2 kid) u hokj (unhide HYK) h h')
   have HKI := hide (hk.below bel)
   have HYI := hide ((unhide HY).below bel)
   obtain ⟨x0, x1, x2, x3, x4, x5, x6⟩ := sixfl X1
   have SK : Hid (∀ w', Below wr.heap.size wr w' → (Below wr.heap.size wr w' ∧ w'.cell? ⟨w.heap.size, 0, none⟩ = some (.int .i64 k) ∧ w'.cell? ⟨w.heap.size, 1, none⟩ = some (.bool b) ∧ w'.cell? ⟨w.heap.size, 2, none⟩ = some (.int .i64 m) ∧ w'.cell? ⟨w.heap.size, 3, none⟩ = some (.int .i64 s) ∧ w'.cell? ⟨w.heap.size, 4, none⟩ = some (.string t) ∧ w'.cell? ⟨w.heap.size, 5, none⟩ = some (.slice a2 len cap2) ∧ w'.cell? ⟨bl, o + j * 6, none⟩ = some (.int .i64 k') ∧ w'.cell? ⟨bl, o + j * 6 + 1, none⟩ = some (.bool b') ∧ w'.cell? ⟨bl, o + j * 6 + 2, none⟩ = some (.int .i64 m') ∧ w'.cell? ⟨bl, o + j * 6 + 3, none⟩ = some (.int .i64 s') ∧ w'.cell? ⟨bl, o + j * 6 + 4, none⟩ = some (.string t') ∧ w'.cell? ⟨bl, o + j * 6 + 5, none⟩ = some (.slice a' len' cap'))) := hide (fun w' kk => ⟨kk, kcell kk (World.block_lt_of_cell? _ _ x1) x1, kcell kk (World.block_lt_of_cell? _ _ x2) x2, kcell kk (World.block_lt_of_cell? _ _ x3) x3, kcell kk (World.block_lt_of_cell? _ _ x4) x4, kcell kk (World.block_lt_of_cell? _ _ x5) x5, kcell kk (World.block_lt_of_cell? _ _ x6) x6, kcell kk (World.block_lt_of_cell? _ _ s1) s1, kcell kk (World.block_lt_of_cell? _ _ s2) s2, kcell kk (World.block_lt_of_cell? _ _ s3) s3, kcell kk (World.block_lt_of_cell? _ _ s4) s4, kcell kk (World.block_lt_of_cell? _ _ s5) s5, kcell kk (World.block_lt_of_cell? _ _ s6) s6⟩)
   have jl : (0 : Int) ≤ (j : Int) := by omega
   have jl2 : (j : Int) < (l.length : Int) := by omega
   clear six hk hin1 hx hokj X0 O0 B0 X1
   cases hc : ((VT.mk k' b' m' s' t' a' len' cap' kid').cmp (VT.mk k b m s t a2 len cap2 kid) == 0)
   ·have HC := hide hc
    rw [hc, Bool.false_or] at HR
    clear hc
    go_wp2_with fail
    refine wp_region_noPanic ?_
    refine wp_region_held_drew (S := fun w' => Below wr.heap.size wr w' ∧ w'.cell? ⟨w.heap.size, 0, none⟩ = some (.int .i64 k) ∧ w'.cell? ⟨w.heap.size, 1, none⟩ = some (.bool b) ∧ w'.cell? ⟨w.heap.size, 2, none⟩ = some (.int .i64 m) ∧ w'.cell? ⟨w.heap.size, 3, none⟩ = some (.int .i64 s) ∧ w'.cell? ⟨w.heap.size, 4, none⟩ = some (.string t) ∧ w'.cell? ⟨w.heap.size, 5, none⟩ = some (.slice a2 len cap2) ∧ w'.cell? ⟨bl, o + j * 6, none⟩ = some (.int .i64 k') ∧ w'.cell? ⟨bl, o + j * 6 + 1, none⟩ = some (.bool b') ∧ w'.cell? ⟨bl, o + j * 6 + 2, none⟩ = some (.int .i64 m') ∧ w'.cell? ⟨bl, o + j * 6 + 3, none⟩ = some (.int .i64 s') ∧ w'.cell? ⟨bl, o + j * 6 + 4, none⟩ = some (.string t') ∧ w'.cell? ⟨bl, o + j * 6 + 5, none⟩ = some (.slice a' len' cap')) (by kernel_rfl) ?hS0a (fun hHeld => ?_)
    case hS0a => exact unhide SK _ (Below.refl _ _).drew
    have jda : Below wr.heap.size wr wr.drew := (Below.refl _ _).drew
    have HKI0a := hide ((unhide HKI).below jda)
    have HYI0a := hide ((unhide HYI).below jda)
    clear jda
    generalize wr.drew = u0a at *
    refine takeC 0 (some 12) ?_
    refine takeC 1 (some 13) ?_
    refine takeC 2 (some 14) ?_
    refine takeC 3 (some 15) ?_
    refine takeC 4 (some 16) ?_
    refine wpAnyH_ready (rs := [5]) (by kernel_rfl) (by simp) ?_
    refine AllReadyH.cons rfl (fun K0 hK0 => ?_) AllReadyH.nil
    go_simp
    refine (unhide EQ _ (unhide HKI0a) (unhide HYI0a)).mono ?_
    rintro e u1a ⟨rfl, j1a⟩
    rw [unhide HC]
    go_wp2_with fail
    refine hK0.out _ _ ?hS1a (fun hHeld1 => ?_)
    case hS1a => exact unhide SK _ (keep_call hHeld j1a)
    clear hK0 K0
    have HKI1a := hide ((unhide HKI0a).below j1a)
    have HYI1a := hide ((unhide HYI0a).below j1a)
    clear j1a
    clear hHeld HKI0a HYI0a
    have hHeld := hHeld1
    clear hHeld1
    try simp only [Act.put, List.setIfInBounds_toArray, List.set_cons_zero, List.set_cons_succ]
    refine wpAnyH_done (by kernel_rfl) ?_ _
    refine NoPanic.normal ?_
    have k2 := hHeld.1
    clear hHeld
    go_wp2_with fail
    go_roundw
    case rel => exact ⟨j + 1, by omega, by go_num, HR, bstep bel k2⟩
    case measure => simp [intOf]; omega
   ·have HC := hide hc
    have HR2 : Hid (R = true) := hide (by have := unhide HR; rw [hc] at this; simpa using this.symm)
    clear hc HR
    go_wp2_with fail
    refine wp_region_noPanic ?_
    refine wp_region_held_drew (S := fun w' => Below wr.heap.size wr w' ∧ w'.cell? ⟨w.heap.size, 0, none⟩ = some (.int .i64 k) ∧ w'.cell? ⟨w.heap.size, 1, none⟩ = some (.bool b) ∧ w'.cell? ⟨w.heap.size, 2, none⟩ = some (.int .i64 m) ∧ w'.cell? ⟨w.heap.size, 3, none⟩ = some (.int .i64 s) ∧ w'.cell? ⟨w.heap.size, 4, none⟩ = some (.string t) ∧ w'.cell? ⟨w.heap.size, 5, none⟩ = some (.slice a2 len cap2) ∧ w'.cell? ⟨bl, o + j * 6, none⟩ = some (.int .i64 k') ∧ w'.cell? ⟨bl, o + j * 6 + 1, none⟩ = some (.bool b') ∧ w'.cell? ⟨bl, o + j * 6 + 2, none⟩ = some (.int .i64 m') ∧ w'.cell? ⟨bl, o + j * 6 + 3, none⟩ = some (.int .i64 s') ∧ w'.cell? ⟨bl, o + j * 6 + 4, none⟩ = some (.string t') ∧ w'.cell? ⟨bl, o + j * 6 + 5, none⟩ = some (.slice a' len' cap')) (by kernel_rfl) ?hS0b (fun hHeld => ?_)
    case hS0b => exact unhide SK _ (Below.refl _ _).drew
    have jdb : Below wr.heap.size wr wr.drew := (Below.refl _ _).drew
    have HKI0b := hide ((unhide HKI).below jdb)
    have HYI0b := hide ((unhide HYI).below jdb)
    clear jdb
    generalize wr.drew = u0b at *
    refine takeC 0 (some 12) ?_
    refine takeC 1 (some 13) ?_
    refine takeC 2 (some 14) ?_
    refine takeC 3 (some 15) ?_
    refine takeC 4 (some 16) ?_
    refine wpAnyH_ready (rs := [5]) (by kernel_rfl) (by simp) ?_
    refine AllReadyH.cons rfl (fun K0 hK0 => ?_) AllReadyH.nil
    go_simp
    refine (unhide EQ _ (unhide HKI0b) (unhide HYI0b)).mono ?_
    rintro e u1b ⟨rfl, j1b⟩
    rw [unhide HC]
    go_wp2_with fail
    refine hK0.out _ _ ?hS1b (fun hHeld1 => ?_)
    case hS1b => exact unhide SK _ (keep_call hHeld j1b)
    clear hK0 K0
    have HKI1b := hide ((unhide HKI0b).below j1b)
    have HYI1b := hide ((unhide HYI0b).below j1b)
    clear j1b
    clear hHeld HKI0b HYI0b
    have hHeld := hHeld1
    clear hHeld1
    try simp only [Act.put, List.setIfInBounds_toArray, List.set_cons_zero, List.set_cons_succ]
    refine wpAnyH_done (by kernel_rfl) ?_ _
    refine NoPanic.normal ?_
    have k2 := hHeld.1
    clear hHeld
    have O3 := O1.below k2
    have B3 := bstep B1 k2
    clear k2 bel B1 O1
    go_wp2_with fail
    refine (rof_any _ _).mono ?_
    rintro e w3 ⟨rfl, k3⟩
    have O4 := O3.below k3
    have B4 := bstep B3 k3
    clear k3 O3 B3
    obtain ⟨u0, t0, t1, t2, t3, t4, t5, f0, f1, f2, f3, f4, f5⟩ := Own.fl O4
    unfold tval
    go_wp2_with fail
    refine bodyPost_ret (v := lfv 1 true 0 0 ⟨#[]⟩) zR69lt0t1t2t3t4t5 rfl ⟨by rw [unhide HR2]; rfl, zBL⟩
  ·have HR2 : Hid (R = false) := by have := unhide HR; rw [List.drop_of_length_le (by omega)] at this; exact this.symm
   clear HR hin1 X0 O0 B0 X1 bel
   go_wp2_with fail
   refine (rof_any _ _).mono ?_
   rintro e w3 ⟨rfl, k3⟩
   have O4 := O1.below k3
   have B4 := bstep B1 k3
   clear k3 O1 B1
   obtain ⟨u0, t0, t1, t2, t3, t4, t5, f0, f1, f2, f3, f4, f5⟩ := Own.fl O4
   unfold tval
   go_wp2_with fail
   refine bodyPost_ret (v := lfv 1 false 0 0 ⟨#[]⟩) zR69lt0t1t2t3t4t5 rfl ⟨by rw [unhide HR2]; rfl, zBL⟩
end
end Go.Proofs.YtfdimdjmnfdecaaGreat

/- ERel Mul: laid together. -/
import Derived.Test.YtfdimdjmnfdecaaGreatKAE
set_option linter.unusedVariables false
set_option linter.unusedSimpArgs false
set_option maxHeartbeats 8000000
namespace Go.Proofs.YtfdimdjmnfdecaaGreat
open Go.RowKit
section
open VT (leaf mkV)
theorem rel_eq  (x y : VT) (w : World) (hx : x.okB 2 = true) (hy : y.okB 2 = true) (hin : x.In w) (hin' : y.In w) :
  Calls Tryz.prog 19 #[.string ⟨([61]).toArray⟩, x.val, y.val] w fun e w' => e = .returned (lfv 1 ((x.cmp y == 0)) 0 0 ⟨#[]⟩) ∧ Below w.heap.size w w' := by
 obtain ⟨k, b, m, s, t, a, len, cap, kid, rfl⟩ := hin.form
 obtain ⟨k', b', m', s', t', a', len', cap', kid', rfl⟩ := hin'.form
 have EQ := hide (fun w h h' => vequal_any (VT.mk k b m s t a len cap kid) (VT.mk k' b' m' s' t' a' len' cap' kid') w hx hy h h')
 have CM := hide (fun w h h' => vcmp_any (VT.mk k b m s t a len cap kid) (VT.mk k' b' m' s' t' a' len' cap' kid') w hx hy h h')
 have BT := boxes2 w k b m s t a len cap k' b' m' s' t' a' len' cap'
 have J0 := hide (hin.below BT.2.2.2.1)
 have K0 := hide (hin'.below BT.2.2.2.1)
 clear hin hin' hx hy
 show Calls Tryz.prog 19 #[.string ⟨([61]).toArray⟩, .agg #[.int .i64 k, .bool b, .int .i64 m, .int .i64 s, .string t, .slice a len cap], .agg #[.int .i64 k', .bool b', .int .i64 m', .int .i64 s', .string t', .slice a' len' cap']] w _
 generalize (VT.mk k b m s t a len cap kid).cmp (VT.mk k' b' m' s' t' a' len' cap' kid') = R at *
 go_enter Tryz.func19, Tryz.ntmps19
 go_wp2_with fail
 generalize (((w.alloc (Obj.cells #[.int .i64 k, .bool b, .int .i64 m, .int .i64 s, .string t, .slice a len cap] 32)).alloc (Obj.cells #[.int .i64 k', .bool b', .int .i64 m', .int .i64 s', .string t', .slice a' len' cap'] 32)).alloc (Obj.cells #[.int .i64 0, .bool false, .int .i64 0, .int .i64 0, .string ⟨#[]⟩, .slice none 0 0] 32)) = V at *
 obtain ⟨X0, Y0, O0, B0, z0⟩ := BT
 clear z0
 obtain ⟨x0, x1, x2, x3, x4, x5, x6⟩ := sixfl X0
 obtain ⟨y0, y1, y2, y3, y4, y5, y6⟩ := sixfl Y0
 refine (unhide EQ _ (unhide J0) (unhide K0)).mono ?_
 rintro e w1 ⟨rfl, k1⟩
 have X1 := VT.Six.below X0 k1
 have Y1 := VT.Six.below Y0 k1
 have O1 := Own.below O0 k1
 have B1 := bstep B0 k1
 have J1 := hide ((unhide J0).below k1)
 have K1 := hide ((unhide K0).below k1)
 clear k1 X0 Y0 O0 J0 K0 B0 x0 x1 x2 x3 x4 x5 x6 y0 y1 y2 y3 y4 y5 y6
 obtain ⟨x0, x1, x2, x3, x4, x5, x6⟩ := sixfl X1
 obtain ⟨y0, y1, y2, y3, y4, y5, y6⟩ := sixfl Y1
 go_wp2_with fail
 refine (etruth_any _ _).mono ?_
 rintro e w2 ⟨rfl, k2⟩
 have X2 := VT.Six.below X1 k2
 have Y2 := VT.Six.below Y1 k2
 have O2 := Own.below O1 k2
 have B2 := bstep B1 k2
 have J2 := hide ((unhide J1).below k2)
 have K2 := hide ((unhide K1).below k2)
 clear k2 X1 Y1 O1 J1 K1 B1 x0 x1 x2 x3 x4 x5 x6 y0 y1 y2 y3 y4 y5 y6
 obtain ⟨x0, x1, x2, x3, x4, x5, x6⟩ := sixfl X2
 obtain ⟨y0, y1, y2, y3, y4, y5, y6⟩ := sixfl Y2
 unfold lfv
 obtain ⟨u0, t0, t1, t2, t3, t4, t5, f0, f1, f2, f3, f4, f5⟩ := Own.fl O2
 go_wp2_with fail
 exact bodyPost_ret (v := lfv 1 (R == 0) 0 0 ⟨#[]⟩) zR19lt0t1t2t3t4t5 rfl ⟨rfl, zBL⟩
theorem rel_ne  (x y : VT) (w : World) (hx : x.okB 2 = true) (hy : y.okB 2 = true) (hin : x.In w) (hin' : y.In w) :
  Calls Tryz.prog 19 #[.string ⟨([33, 61]).toArray⟩, x.val, y.val] w fun e w' => e = .returned (lfv 1 (!(x.cmp y == 0)) 0 0 ⟨#[]⟩) ∧ Below w.heap.size w w' := by
 obtain ⟨k, b, m, s, t, a, len, cap, kid, rfl⟩ := hin.form
 obtain ⟨k', b', m', s', t', a', len', cap', kid', rfl⟩ := hin'.form
 have EQ := hide (fun w h h' => vequal_any (VT.mk k b m s t a len cap kid) (VT.mk k' b' m' s' t' a' len' cap' kid') w hx hy h h')
 have CM := hide (fun w h h' => vcmp_any (VT.mk k b m s t a len cap kid) (VT.mk k' b' m' s' t' a' len' cap' kid') w hx hy h h')
 have BT := boxes2 w k b m s t a len cap k' b' m' s' t' a' len' cap'
 have J0 := hide (hin.below BT.2.2.2.1)
 have K0 := hide (hin'.below BT.2.2.2.1)
 clear hin hin' hx hy
 show Calls Tryz.prog 19 #[.string ⟨([33, 61]).toArray⟩, .agg #[.int .i64 k, .bool b, .int .i64 m, .int .i64 s, .string t, .slice a len cap], .agg #[.int .i64 k', .bool b', .int .i64 m', .int .i64 s', .string t', .slice a' len' cap']] w _
 generalize (VT.mk k b m s t a len cap kid).cmp (VT.mk k' b' m' s' t' a' len' cap' kid') = R at *
 go_enter Tryz.func19, Tryz.ntmps19
 go_wp2_with fail
 generalize (((w.alloc (Obj.cells #[.int .i64 k, .bool b, .int .i64 m, .int .i64 s, .string t, .slice a len cap] 32)).alloc (Obj.cells #[.int .i64 k', .bool b', .int .i64 m', .int .i64 s', .string t', .slice a' len' cap'] 32)).alloc (Obj.cells #[.int .i64 0, .bool false, .int .i64 0, .int .i64 0, .string ⟨#[]⟩, .slice none 0 0] 32)) = V at *
 obtain ⟨X0, Y0, O0, B0, z0⟩ := BT
 clear z0
 obtain ⟨x0, x1, x2, x3, x4, x5, x6⟩ := sixfl X0
 obtain ⟨y0, y1, y2, y3, y4, y5, y6⟩ := sixfl Y0
 refine (unhide EQ _ (unhide J0) (unhide K0)).mono ?_
 rintro e w1 ⟨rfl, k1⟩
 have X1 := VT.Six.below X0 k1
 have Y1 := VT.Six.below Y0 k1
 have O1 := Own.below O0 k1
 have B1 := bstep B0 k1
 have J1 := hide ((unhide J0).below k1)
 have K1 := hide ((unhide K0).below k1)
 clear k1 X0 Y0 O0 J0 K0 B0 x0 x1 x2 x3 x4 x5 x6 y0 y1 y2 y3 y4 y5 y6
 obtain ⟨x0, x1, x2, x3, x4, x5, x6⟩ := sixfl X1
 obtain ⟨y0, y1, y2, y3, y4, y5, y6⟩ := sixfl Y1
 go_wp2_with fail
 refine (etruth_any _ _).mono ?_
 rintro e w2 ⟨rfl, k2⟩
 have X2 := VT.Six.below X1 k2
 have Y2 := VT.Six.below Y1 k2
 have O2 := Own.below O1 k2
 have B2 := bstep B1 k2
 have J2 := hide ((unhide J1).below k2)
 have K2 := hide ((unhide K1).below k2)
 clear k2 X1 Y1 O1 J1 K1 B1 x0 x1 x2 x3 x4 x5 x6 y0 y1 y2 y3 y4 y5 y6
 obtain ⟨x0, x1, x2, x3, x4, x5, x6⟩ := sixfl X2
 obtain ⟨y0, y1, y2, y3, y4, y5, y6⟩ := sixfl Y2
 unfold lfv
 obtain ⟨u0, t0, t1, t2, t3, t4, t5, f0, f1, f2, f3, f4, f5⟩ := Own.fl O2
 go_wp2_with fail
 exact bodyPost_ret (v := lfv 1 (!(R == 0)) 0 0 ⟨#[]⟩) zR19lt0t1t2t3t4t5 rfl ⟨rfl, zBL⟩
theorem rel_ltn   (x y : VT) (w : World) (hk : kdV x = 2 ∧ kdV y = 2) (hx : x.okB 2 = true) (hy : y.okB 2 = true) (hin : x.In w) (hin' : y.In w) :
  Calls Tryz.prog 19 #[.string ⟨([60]).toArray⟩, x.val, y.val] w fun e w' => e = .returned (lfv 1 (decide (x.cmp y < 0)) 0 0 ⟨#[]⟩) ∧ Below w.heap.size w w' := by
 obtain ⟨k, b, m, s, t, a, len, cap, kid, rfl⟩ := hin.form
 obtain ⟨k', b', m', s', t', a', len', cap', kid', rfl⟩ := hin'.form
 have EQ := hide (fun w h h' => vequal_any (VT.mk k b m s t a len cap kid) (VT.mk k' b' m' s' t' a' len' cap' kid') w hx hy h h')
 have CM := hide (fun w h h' => vcmp_any (VT.mk k b m s t a len cap kid) (VT.mk k' b' m' s' t' a' len' cap' kid') w hx hy h h')
 have BT := boxes2 w k b m s t a len cap k' b' m' s' t' a' len' cap'
 have J0 := hide (hin.below BT.2.2.2.1)
 have K0 := hide (hin'.below BT.2.2.2.1)
 clear hin hin' hx hy
 show Calls Tryz.prog 19 #[.string ⟨([60]).toArray⟩, .agg #[.int .i64 k, .bool b, .int .i64 m, .int .i64 s, .string t, .slice a len cap], .agg #[.int .i64 k', .bool b', .int .i64 m', .int .i64 s', .string t', .slice a' len' cap']] w _
 generalize (VT.mk k b m s t a len cap kid).cmp (VT.mk k' b' m' s' t' a' len' cap' kid') = R at *
 have HK : Hid (k = 2 ∧ k' = 2) := hk
 clear hk
 go_enter Tryz.func19, Tryz.ntmps19
 go_wp2_with fail
 generalize (((w.alloc (Obj.cells #[.int .i64 k, .bool b, .int .i64 m, .int .i64 s, .string t, .slice a len cap] 32)).alloc (Obj.cells #[.int .i64 k', .bool b', .int .i64 m', .int .i64 s', .string t', .slice a' len' cap'] 32)).alloc (Obj.cells #[.int .i64 0, .bool false, .int .i64 0, .int .i64 0, .string ⟨#[]⟩, .slice none 0 0] 32)) = V at *
 obtain ⟨X0, Y0, O0, B0, z0⟩ := BT
 clear z0
 obtain ⟨x0, x1, x2, x3, x4, x5, x6⟩ := sixfl X0
 obtain ⟨y0, y1, y2, y3, y4, y5, y6⟩ := sixfl Y0
 refine (both_any _ _ _ _ _ _ _ _ _ _ _ _ _ _ _ _ _ _).mono ?_
 rintro e w1 ⟨rfl, k1⟩
 have X1 := VT.Six.below X0 k1
 have Y1 := VT.Six.below Y0 k1
 have O1 := Own.below O0 k1
 have B1 := bstep B0 k1
 have J1 := hide ((unhide J0).below k1)
 have K1 := hide ((unhide K0).below k1)
 clear k1 X0 Y0 O0 J0 K0 B0 x0 x1 x2 x3 x4 x5 x6 y0 y1 y2 y3 y4 y5 y6
 obtain ⟨x0, x1, x2, x3, x4, x5, x6⟩ := sixfl X1
 obtain ⟨y0, y1, y2, y3, y4, y5, y6⟩ := sixfl Y1
 rw [decide_eq_true (show k = 2 ∧ k' = 2 from unhide HK)]
 go_wp2_with fail
 refine (unhide CM _ (unhide J1) (unhide K1)).mono ?_
 rintro e w2 ⟨rfl, k2⟩
 have X2 := VT.Six.below X1 k2
 have Y2 := VT.Six.below Y1 k2
 have O2 := Own.below O1 k2
 have B2 := bstep B1 k2
 have J2 := hide ((unhide J1).below k2)
 have K2 := hide ((unhide K1).below k2)
 clear k2 X1 Y1 O1 J1 K1 B1 x0 x1 x2 x3 x4 x5 x6 y0 y1 y2 y3 y4 y5 y6
 obtain ⟨x0, x1, x2, x3, x4, x5, x6⟩ := sixfl X2
 obtain ⟨y0, y1, y2, y3, y4, y5, y6⟩ := sixfl Y2
 go_wp2_with fail
 refine (etruth_any _ _).mono ?_
 rintro e w3 ⟨rfl, k3⟩
 have X3 := VT.Six.below X2 k3
 have Y3 := VT.Six.below Y2 k3
 have O3 := Own.below O2 k3
 have B3 := bstep B2 k3
 have J3 := hide ((unhide J2).below k3)
 have K3 := hide ((unhide K2).below k3)
 clear k3 X2 Y2 O2 J2 K2 B2 x0 x1 x2 x3 x4 x5 x6 y0 y1 y2 y3 y4 y5 y6
 obtain ⟨x0, x1, x2, x3, x4, x5, x6⟩ := sixfl X3
 obtain ⟨y0, y1, y2, y3, y4, y5, y6⟩ := sixfl Y3
 unfold lfv
 obtain ⟨u0, t0, t1, t2, t3, t4, t5, f0, f1, f2, f3, f4, f5⟩ := Own.fl O3
 go_wp2_with fail
 exact bodyPost_ret (v := lfv 1 (decide (R < 0)) 0 0 ⟨#[]⟩) zR19lt0t1t2t3t4t5 rfl ⟨rfl, zBL⟩
theorem rel_ltt   (x y : VT) (w : World) (hk : kdV x = 3 ∧ kdV y = 3) (hx : x.okB 2 = true) (hy : y.okB 2 = true) (hin : x.In w) (hin' : y.In w) :
  Calls Tryz.prog 19 #[.string ⟨([60]).toArray⟩, x.val, y.val] w fun e w' => e = .returned (lfv 1 (decide (x.cmp y < 0)) 0 0 ⟨#[]⟩) ∧ Below w.heap.size w w' := by
 obtain ⟨k, b, m, s, t, a, len, cap, kid, rfl⟩ := hin.form
 obtain ⟨k', b', m', s', t', a', len', cap', kid', rfl⟩ := hin'.form
 have EQ := hide (fun w h h' => vequal_any (VT.mk k b m s t a len cap kid) (VT.mk k' b' m' s' t' a' len' cap' kid') w hx hy h h')
 have CM := hide (fun w h h' => vcmp_any (VT.mk k b m s t a len cap kid) (VT.mk k' b' m' s' t' a' len' cap' kid') w hx hy h h')
 have BT := boxes2 w k b m s t a len cap k' b' m' s' t' a' len' cap'
 have J0 := hide (hin.below BT.2.2.2.1)
 have K0 := hide (hin'.below BT.2.2.2.1)
 clear hin hin' hx hy
 show Calls Tryz.prog 19 #[.string ⟨([60]).toArray⟩, .agg #[.int .i64 k, .bool b, .int .i64 m, .int .i64 s, .string t, .slice a len cap], .agg #[.int .i64 k', .bool b', .int .i64 m', .int .i64 s', .string t', .slice a' len' cap']] w _
 generalize (VT.mk k b m s t a len cap kid).cmp (VT.mk k' b' m' s' t' a' len' cap' kid') = R at *
 have HK : Hid (k = 3 ∧ k' = 3) := hk
 clear hk
 go_enter Tryz.func19, Tryz.ntmps19
 go_wp2_with fail
 generalize (((w.alloc (Obj.cells #[.int .i64 k, .bool b, .int .i64 m, .int .i64 s, .string t, .slice a len cap] 32)).alloc (Obj.cells #[.int .i64 k', .bool b', .int .i64 m', .int .i64 s', .string t', .slice a' len' cap'] 32)).alloc (Obj.cells #[.int .i64 0, .bool false, .int .i64 0, .int .i64 0, .string ⟨#[]⟩, .slice none 0 0] 32)) = V at *
 obtain ⟨X0, Y0, O0, B0, z0⟩ := BT
 clear z0
 obtain ⟨x0, x1, x2, x3, x4, x5, x6⟩ := sixfl X0
 obtain ⟨y0, y1, y2, y3, y4, y5, y6⟩ := sixfl Y0
 refine (both_any _ _ _ _ _ _ _ _ _ _ _ _ _ _ _ _ _ _).mono ?_
 rintro e w1 ⟨rfl, k1⟩
 have X1 := VT.Six.below X0 k1
 have Y1 := VT.Six.below Y0 k1
 have O1 := Own.below O0 k1
 have B1 := bstep B0 k1
 have J1 := hide ((unhide J0).below k1)
 have K1 := hide ((unhide K0).below k1)
 clear k1 X0 Y0 O0 J0 K0 B0 x0 x1 x2 x3 x4 x5 x6 y0 y1 y2 y3 y4 y5 y6
 obtain ⟨x0, x1, x2, x3, x4, x5, x6⟩ := sixfl X1
 obtain ⟨y0, y1, y2, y3, y4, y5, y6⟩ := sixfl Y1
 rw [decide_eq_false (show ¬ (k = 2 ∧ k' = 2) from fun h => by have := unhide HK; omega)]
 go_wp2_with fail
 refine (both_any _ _ _ _ _ _ _ _ _ _ _ _ _ _ _ _ _ _).mono ?_
 rintro e w2 ⟨rfl, k2⟩
 have X2 := VT.Six.below X1 k2
 have Y2 := VT.Six.below Y1 k2
 have O2 := Own.below O1 k2
 have B2 := bstep B1 k2
 have J2 := hide ((unhide J1).below k2)
 have K2 := hide ((unhide K1).below k2)
 clear k2 X1 Y1 O1 J1 K1 B1 x0 x1 x2 x3 x4 x5 x6 y0 y1 y2 y3 y4 y5 y6
 obtain ⟨x0, x1, x2, x3, x4, x5, x6⟩ := sixfl X2
 obtain ⟨y0, y1, y2, y3, y4, y5, y6⟩ := sixfl Y2
 rw [decide_eq_true (show k = 3 ∧ k' = 3 from unhide HK)]
 go_wp2_with fail
 refine (unhide CM _ (unhide J2) (unhide K2)).mono ?_
 rintro e w3 ⟨rfl, k3⟩
 have X3 := VT.Six.below X2 k3
 have Y3 := VT.Six.below Y2 k3
 have O3 := Own.below O2 k3
 have B3 := bstep B2 k3
 have J3 := hide ((unhide J2).below k3)
 have K3 := hide ((unhide K2).below k3)
 clear k3 X2 Y2 O2 J2 K2 B2 x0 x1 x2 x3 x4 x5 x6 y0 y1 y2 y3 y4 y5 y6
 obtain ⟨x0, x1, x2, x3, x4, x5, x6⟩ := sixfl X3
 obtain ⟨y0, y1, y2, y3, y4, y5, y6⟩ := sixfl Y3
 go_wp2_with fail
 refine (etruth_any _ _).mono ?_
 rintro e w4 ⟨rfl, k4⟩
 have X4 := VT.Six.below X3 k4
 have Y4 := VT.Six.below Y3 k4
 have O4 := Own.below O3 k4
 have B4 := bstep B3 k4
 have J4 := hide ((unhide J3).below k4)
 have K4 := hide ((unhide K3).below k4)
 clear k4 X3 Y3 O3 J3 K3 B3 x0 x1 x2 x3 x4 x5 x6 y0 y1 y2 y3 y4 y5 y6
 obtain ⟨x0, x1, x2, x3, x4, x5, x6⟩ := sixfl X4
 obtain ⟨y0, y1, y2, y3, y4, y5, y6⟩ := sixfl Y4
 unfold lfv
 obtain ⟨u0, t0, t1, t2, t3, t4, t5, f0, f1, f2, f3, f4, f5⟩ := Own.fl O4
 go_wp2_with fail
 exact bodyPost_ret (v := lfv 1 (decide (R < 0)) 0 0 ⟨#[]⟩) zR19lt0t1t2t3t4t5 rfl ⟨rfl, zBL⟩
theorem rel_len   (x y : VT) (w : World) (hk : kdV x = 2 ∧ kdV y = 2) (hx : x.okB 2 = true) (hy : y.okB 2 = true) (hin : x.In w) (hin' : y.In w) :
  Calls Tryz.prog 19 #[.string ⟨([60, 61]).toArray⟩, x.val, y.val] w fun e w' => e = .returned (lfv 1 (decide (x.cmp y ≤ 0)) 0 0 ⟨#[]⟩) ∧ Below w.heap.size w w' := by
 obtain ⟨k, b, m, s, t, a, len, cap, kid, rfl⟩ := hin.form
 obtain ⟨k', b', m', s', t', a', len', cap', kid', rfl⟩ := hin'.form
 have EQ := hide (fun w h h' => vequal_any (VT.mk k b m s t a len cap kid) (VT.mk k' b' m' s' t' a' len' cap' kid') w hx hy h h')
 have CM := hide (fun w h h' => vcmp_any (VT.mk k b m s t a len cap kid) (VT.mk k' b' m' s' t' a' len' cap' kid') w hx hy h h')
 have BT := boxes2 w k b m s t a len cap k' b' m' s' t' a' len' cap'
 have J0 := hide (hin.below BT.2.2.2.1)
 have K0 := hide (hin'.below BT.2.2.2.1)
 clear hin hin' hx hy
 show Calls Tryz.prog 19 #[.string ⟨([60, 61]).toArray⟩, .agg #[.int .i64 k, .bool b, .int .i64 m, .int .i64 s, .string t, .slice a len cap], .agg #[.int .i64 k', .bool b', .int .i64 m', .int .i64 s', .string t', .slice a' len' cap']] w _
 generalize (VT.mk k b m s t a len cap kid).cmp (VT.mk k' b' m' s' t' a' len' cap' kid') = R at *
 have HK : Hid (k = 2 ∧ k' = 2) := hk
 clear hk
 go_enter Tryz.func19, Tryz.ntmps19
 go_wp2_with fail
 generalize (((w.alloc (Obj.cells #[.int .i64 k, .bool b, .int .i64 m, .int .i64 s, .string t, .slice a len cap] 32)).alloc (Obj.cells #[.int .i64 k', .bool b', .int .i64 m', .int .i64 s', .string t', .slice a' len' cap'] 32)).alloc (Obj.cells #[.int .i64 0, .bool false, .int .i64 0, .int .i64 0, .string ⟨#[]⟩, .slice none 0 0] 32)) = V at *
 obtain ⟨X0, Y0, O0, B0, z0⟩ := BT
 clear z0
 obtain ⟨x0, x1, x2, x3, x4, x5, x6⟩ := sixfl X0
 obtain ⟨y0, y1, y2, y3, y4, y5, y6⟩ := sixfl Y0
 refine (both_any _ _ _ _ _ _ _ _ _ _ _ _ _ _ _ _ _ _).mono ?_
 rintro e w1 ⟨rfl, k1⟩
 have X1 := VT.Six.below X0 k1
 have Y1 := VT.Six.below Y0 k1
 have O1 := Own.below O0 k1
 have B1 := bstep B0 k1
 have J1 := hide ((unhide J0).below k1)
 have K1 := hide ((unhide K0).below k1)
 clear k1 X0 Y0 O0 J0 K0 B0 x0 x1 x2 x3 x4 x5 x6 y0 y1 y2 y3 y4 y5 y6
 obtain ⟨x0, x1, x2, x3, x4, x5, x6⟩ := sixfl X1
 obtain ⟨y0, y1, y2, y3, y4, y5, y6⟩ := sixfl Y1
 rw [decide_eq_true (show k = 2 ∧ k' = 2 from unhide HK)]
 go_wp2_with fail
 refine (unhide CM _ (unhide J1) (unhide K1)).mono ?_
 rintro e w2 ⟨rfl, k2⟩
 have X2 := VT.Six.below X1 k2
 have Y2 := VT.Six.below Y1 k2
 have O2 := Own.below O1 k2
 have B2 := bstep B1 k2
 have J2 := hide ((unhide J1).below k2)
 have K2 := hide ((unhide K1).below k2)
 clear k2 X1 Y1 O1 J1 K1 B1 x0 x1 x2 x3 x4 x5 x6 y0 y1 y2 y3 y4 y5 y6
 obtain ⟨x0, x1, x2, x3, x4, x5, x6⟩ := sixfl X2
 obtain ⟨y0, y1, y2, y3, y4, y5, y6⟩ := sixfl Y2
 go_wp2_with fail
 refine (etruth_any _ _).mono ?_
 rintro e w3 ⟨rfl, k3⟩
 have X3 := VT.Six.below X2 k3
 have Y3 := VT.Six.below Y2 k3
 have O3 := Own.below O2 k3
 have B3 := bstep B2 k3
 have J3 := hide ((unhide J2).below k3)
 have K3 := hide ((unhide K2).below k3)
 clear k3 X2 Y2 O2 J2 K2 B2 x0 x1 x2 x3 x4 x5 x6 y0 y1 y2 y3 y4 y5 y6
 obtain ⟨x0, x1, x2, x3, x4, x5, x6⟩ := sixfl X3
 obtain ⟨y0, y1, y2, y3, y4, y5, y6⟩ := sixfl Y3
 unfold lfv
 obtain ⟨u0, t0, t1, t2, t3, t4, t5, f0, f1, f2, f3, f4, f5⟩ := Own.fl O3
 go_wp2_with fail
 exact bodyPost_ret (v := lfv 1 (decide (R ≤ 0)) 0 0 ⟨#[]⟩) zR19lt0t1t2t3t4t5 rfl ⟨rfl, zBL⟩
theorem rel_let   (x y : VT) (w : World) (hk : kdV x = 3 ∧ kdV y = 3) (hx : x.okB 2 = true) (hy : y.okB 2 = true) (hin : x.In w) (hin' : y.In w) :
  Calls Tryz.prog 19 #[.string ⟨([60, 61]).toArray⟩, x.val, y.val] w fun e w' => e = .returned (lfv 1 (decide (x.cmp y ≤ 0)) 0 0 ⟨#[]⟩) ∧ Below w.heap.size w w' := by
 obtain ⟨k, b, m, s, t, a, len, cap, kid, rfl⟩ := hin.form
 obtain ⟨k', b', m', s', t', a', len', cap', kid', rfl⟩ := hin'.form
 have EQ := hide (fun w h h' => vequal_any (VT.mk k b m s t a len cap kid) (VT.mk k' b' m' s' t' a' len' cap' kid') w hx hy h h')
 have CM := hide (fun w h h' => vcmp_any (VT.mk k b m s t a len cap kid) (VT.mk k' b' m' s' t' a' len' cap' kid') w hx hy h h')
 have BT := boxes2 w k b m s t a len cap k' b' m' s' t' a' len' cap'
 have J0 := hide (hin.below BT.2.2.2.1)
 have K0 := hide (hin'.below BT.2.2.2.1)
 clear hin hin' hx hy
 show Calls Tryz.prog 19 #[.string ⟨([60, 61]).toArray⟩, .agg #[.int .i64 k, .bool b, .int .i64 m, .int .i64 s, .string t, .slice a len cap], .agg #[.int .i64 k', .bool b', .int .i64 m', .int .i64 s', .string t', .slice a' len' cap']] w _
 generalize (VT.mk k b m s t a len cap kid).cmp (VT.mk k' b' m' s' t' a' len' cap' kid') = R at *
 have HK : Hid (k = 3 ∧ k' = 3) := hk
 clear hk
 go_enter Tryz.func19, Tryz.ntmps19
 go_wp2_with fail
 generalize (((w.alloc (Obj.cells #[.int .i64 k, .bool b, .int .i64 m, .int .i64 s, .string t, .slice a len cap] 32)).alloc (Obj.cells #[.int .i64 k', .bool b', .int .i64 m', .int .i64 s', .string t', .slice a' len' cap'] 32)).alloc (Obj.cells #[.int .i64 0, .bool false, .int .i64 0, .int .i64 0, .string ⟨#[]⟩, .slice none 0 0] 32)) = V at *
 obtain ⟨X0, Y0, O0, B0, z0⟩ := BT
 clear z0
 obtain ⟨x0, x1, x2, x3, x4, x5, x6⟩ := sixfl X0
 obtain ⟨y0, y1, y2, y3, y4, y5, y6⟩ := sixfl Y0
 refine (both_any _ _ _ _ _ _ _ _ _ _ _ _ _ _ _ _ _ _).mono ?_
 rintro e w1 ⟨rfl, k1⟩
 have X1 := VT.Six.below X0 k1
 have Y1 := VT.Six.below Y0 k1
 have O1 := Own.below O0 k1
 have B1 := bstep B0 k1
 have J1 := hide ((unhide J0).below k1)
 have K1 := hide ((unhide K0).below k1)
 clear k1 X0 Y0 O0 J0 K0 B0 x0 x1 x2 x3 x4 x5 x6 y0 y1 y2 y3 y4 y5 y6
 obtain ⟨x0, x1, x2, x3, x4, x5, x6⟩ := sixfl X1
 obtain ⟨y0, y1, y2, y3, y4, y5, y6⟩ := sixfl Y1
 rw [decide_eq_false (show ¬ (k = 2 ∧ k' = 2) from fun h => by have := unhide HK; omega)]
 go_wp2_with fail
 refine (both_any _ _ _ _ _ _ _ _ _ _ _ _ _ _ _ _ _ _).mono ?_
 rintro e w2 ⟨rfl, k2⟩
 have X2 := VT.Six.below X1 k2
 have Y2 := VT.Six.below Y1 k2
 have O2 := Own.below O1 k2
 have B2 := bstep B1 k2
 have J2 := hide ((unhide J1).below k2)
 have K2 := hide ((unhide K1).below k2)
 clear k2 X1 Y1 O1 J1 K1 B1 x0 x1 x2 x3 x4 x5 x6 y0 y1 y2 y3 y4 y5 y6
 obtain ⟨x0, x1, x2, x3, x4, x5, x6⟩ := sixfl X2
 obtain ⟨y0, y1, y2, y3, y4, y5, y6⟩ := sixfl Y2
 rw [decide_eq_true (show k = 3 ∧ k' = 3 from unhide HK)]
 go_wp2_with fail
 refine (unhide CM _ (unhide J2) (unhide K2)).mono ?_
 rintro e w3 ⟨rfl, k3⟩
 have X3 := VT.Six.below X2 k3
 have Y3 := VT.Six.below Y2 k3
 have O3 := Own.below O2 k3
 have B3 := bstep B2 k3
 have J3 := hide ((unhide J2).below k3)
 have K3 := hide ((unhide K2).below k3)
 clear k3 X2 Y2 O2 J2 K2 B2 x0 x1 x2 x3 x4 x5 x6 y0 y1 y2 y3 y4 y5 y6
 obtain ⟨x0, x1, x2, x3, x4, x5, x6⟩ := sixfl X3
 obtain ⟨y0, y1, y2, y3, y4, y5, y6⟩ := sixfl Y3
 go_wp2_with fail
 refine (etruth_any _ _).mono ?_
 rintro e w4 ⟨rfl, k4⟩
 have X4 := VT.Six.below X3 k4
 have Y4 := VT.Six.below Y3 k4
 have O4 := Own.below O3 k4
 have B4 := bstep B3 k4
 have J4 := hide ((unhide J3).below k4)
 have K4 := hide ((unhide K3).below k4)
 clear k4 X3 Y3 O3 J3 K3 B3 x0 x1 x2 x3 x4 x5 x6 y0 y1 y2 y3 y4 y5 y6
 obtain ⟨x0, x1, x2, x3, x4, x5, x6⟩ := sixfl X4
 obtain ⟨y0, y1, y2, y3, y4, y5, y6⟩ := sixfl Y4
 unfold lfv
 obtain ⟨u0, t0, t1, t2, t3, t4, t5, f0, f1, f2, f3, f4, f5⟩ := Own.fl O4
 go_wp2_with fail
 exact bodyPost_ret (v := lfv 1 (decide (R ≤ 0)) 0 0 ⟨#[]⟩) zR19lt0t1t2t3t4t5 rfl ⟨rfl, zBL⟩
theorem rel_gtn   (x y : VT) (w : World) (hk : kdV x = 2 ∧ kdV y = 2) (hx : x.okB 2 = true) (hy : y.okB 2 = true) (hin : x.In w) (hin' : y.In w) :
  Calls Tryz.prog 19 #[.string ⟨([62]).toArray⟩, x.val, y.val] w fun e w' => e = .returned (lfv 1 (decide (0 < x.cmp y)) 0 0 ⟨#[]⟩) ∧ Below w.heap.size w w' := by
 obtain ⟨k, b, m, s, t, a, len, cap, kid, rfl⟩ := hin.form
 obtain ⟨k', b', m', s', t', a', len', cap', kid', rfl⟩ := hin'.form
 have EQ := hide (fun w h h' => vequal_any (VT.mk k b m s t a len cap kid) (VT.mk k' b' m' s' t' a' len' cap' kid') w hx hy h h')
 have CM := hide (fun w h h' => vcmp_any (VT.mk k b m s t a len cap kid) (VT.mk k' b' m' s' t' a' len' cap' kid') w hx hy h h')
 have BT := boxes2 w k b m s t a len cap k' b' m' s' t' a' len' cap'
 have J0 := hide (hin.below BT.2.2.2.1)
 have K0 := hide (hin'.below BT.2.2.2.1)
 clear hin hin' hx hy
 show Calls Tryz.prog 19 #[.string ⟨([62]).toArray⟩, .agg #[.int .i64 k, .bool b, .int .i64 m, .int .i64 s, .string t, .slice a len cap], .agg #[.int .i64 k', .bool b', .int .i64 m', .int .i64 s', .string t', .slice a' len' cap']] w _
 generalize (VT.mk k b m s t a len cap kid).cmp (VT.mk k' b' m' s' t' a' len' cap' kid') = R at *
 have HK : Hid (k = 2 ∧ k' = 2) := hk
 clear hk
 go_enter Tryz.func19, Tryz.ntmps19
 go_wp2_with fail
 generalize (((w.alloc (Obj.cells #[.int .i64 k, .bool b, .int .i64 m, .int .i64 s, .string t, .slice a len cap] 32)).alloc (Obj.cells #[.int .i64 k', .bool b', .int .i64 m', .int .i64 s', .string t', .slice a' len' cap'] 32)).alloc (Obj.cells #[.int .i64 0, .bool false, .int .i64 0, .int .i64 0, .string ⟨#[]⟩, .slice none 0 0] 32)) = V at *
 obtain ⟨X0, Y0, O0, B0, z0⟩ := BT
 clear z0
 obtain ⟨x0, x1, x2, x3, x4, x5, x6⟩ := sixfl X0
 obtain ⟨y0, y1, y2, y3, y4, y5, y6⟩ := sixfl Y0
 refine (both_any _ _ _ _ _ _ _ _ _ _ _ _ _ _ _ _ _ _).mono ?_
 rintro e w1 ⟨rfl, k1⟩
 have X1 := VT.Six.below X0 k1
 have Y1 := VT.Six.below Y0 k1
 have O1 := Own.below O0 k1
 have B1 := bstep B0 k1
 have J1 := hide ((unhide J0).below k1)
 have K1 := hide ((unhide K0).below k1)
 clear k1 X0 Y0 O0 J0 K0 B0 x0 x1 x2 x3 x4 x5 x6 y0 y1 y2 y3 y4 y5 y6
 obtain ⟨x0, x1, x2, x3, x4, x5, x6⟩ := sixfl X1
 obtain ⟨y0, y1, y2, y3, y4, y5, y6⟩ := sixfl Y1
 rw [decide_eq_true (show k = 2 ∧ k' = 2 from unhide HK)]
 go_wp2_with fail
 refine (unhide CM _ (unhide J1) (unhide K1)).mono ?_
 rintro e w2 ⟨rfl, k2⟩
 have X2 := VT.Six.below X1 k2
 have Y2 := VT.Six.below Y1 k2
 have O2 := Own.below O1 k2
 have B2 := bstep B1 k2
 have J2 := hide ((unhide J1).below k2)
 have K2 := hide ((unhide K1).below k2)
 clear k2 X1 Y1 O1 J1 K1 B1 x0 x1 x2 x3 x4 x5 x6 y0 y1 y2 y3 y4 y5 y6
 obtain ⟨x0, x1, x2, x3, x4, x5, x6⟩ := sixfl X2
 obtain ⟨y0, y1, y2, y3, y4, y5, y6⟩ := sixfl Y2
 go_wp2_with fail
 refine (etruth_any _ _).mono ?_
 rintro e w3 ⟨rfl, k3⟩
 have X3 := VT.Six.below X2 k3
 have Y3 := VT.Six.below Y2 k3
 have O3 := Own.below O2 k3
 have B3 := bstep B2 k3
 have J3 := hide ((unhide J2).below k3)
 have K3 := hide ((unhide K2).below k3)
 clear k3 X2 Y2 O2 J2 K2 B2 x0 x1 x2 x3 x4 x5 x6 y0 y1 y2 y3 y4 y5 y6
 obtain ⟨x0, x1, x2, x3, x4, x5, x6⟩ := sixfl X3
 obtain ⟨y0, y1, y2, y3, y4, y5, y6⟩ := sixfl Y3
 unfold lfv
 obtain ⟨u0, t0, t1, t2, t3, t4, t5, f0, f1, f2, f3, f4, f5⟩ := Own.fl O3
 go_wp2_with fail
 exact bodyPost_ret (v := lfv 1 (decide (0 < R)) 0 0 ⟨#[]⟩) zR19lt0t1t2t3t4t5 rfl ⟨rfl, zBL⟩
theorem rel_gtt   (x y : VT) (w : World) (hk : kdV x = 3 ∧ kdV y = 3) (hx : x.okB 2 = true) (hy : y.okB 2 = true) (hin : x.In w) (hin' : y.In w) :
  Calls Tryz.prog 19 #[.string ⟨([62]).toArray⟩, x.val, y.val] w fun e w' => e = .returned (lfv 1 (decide (0 < x.cmp y)) 0 0 ⟨#[]⟩) ∧ Below w.heap.size w w' := by
 obtain ⟨k, b, m, s, t, a, len, cap, kid, rfl⟩ := hin.form
 obtain ⟨k', b', m', s', t', a', len', cap', kid', rfl⟩ := hin'.form
 have EQ := hide (fun w h h' => vequal_any (VT.mk k b m s t a len cap kid) (VT.mk k' b' m' s' t' a' len' cap' kid') w hx hy h h')
 have CM := hide (fun w h h' => vcmp_any (VT.mk k b m s t a len cap kid) (VT.mk k' b' m' s' t' a' len' cap' kid') w hx hy h h')
 have BT := boxes2 w k b m s t a len cap k' b' m' s' t' a' len' cap'
 have J0 := hide (hin.below BT.2.2.2.1)
 have K0 := hide (hin'.below BT.2.2.2.1)
 clear hin hin' hx hy
 show Calls Tryz.prog 19 #[.string ⟨([62]).toArray⟩, .agg #[.int .i64 k, .bool b, .int .i64 m, .int .i64 s, .string t, .slice a len cap], .agg #[.int .i64 k', .bool b', .int .i64 m', .int .i64 s', .string t', .slice a' len' cap']] w _
 generalize (VT.mk k b m s t a len cap kid).cmp (VT.mk k' b' m' s' t' a' len' cap' kid') = R at *
 have HK : Hid (k = 3 ∧ k' = 3) := hk
 clear hk
 go_enter Tryz.func19, Tryz.ntmps19
 go_wp2_with fail
 generalize (((w.alloc (Obj.cells #[.int .i64 k, .bool b, .int .i64 m, .int .i64 s, .string t, .slice a len cap] 32)).alloc (Obj.cells #[.int .i64 k', .bool b', .int .i64 m', .int .i64 s', .string t', .slice a' len' cap'] 32)).alloc (Obj.cells #[.int .i64 0, .bool false, .int .i64 0, .int .i64 0, .string ⟨#[]⟩, .slice none 0 0] 32)) = V at *
 obtain ⟨X0, Y0, O0, B0, z0⟩ := BT
 clear z0
 obtain ⟨x0, x1, x2, x3, x4, x5, x6⟩ := sixfl X0
 obtain ⟨y0, y1, y2, y3, y4, y5, y6⟩ := sixfl Y0
 refine (both_any _ _ _ _ _ _ _ _ _ _ _ _ _ _ _ _ _ _).mono ?_
 rintro e w1 ⟨rfl, k1⟩
 have X1 := VT.Six.below X0 k1
 have Y1 := VT.Six.below Y0 k1
 have O1 := Own.below O0 k1
 have B1 := bstep B0 k1
 have J1 := hide ((unhide J0).below k1)
 have K1 := hide ((unhide K0).below k1)
 clear k1 X0 Y0 O0 J0 K0 B0 x0 x1 x2 x3 x4 x5 x6 y0 y1 y2 y3 y4 y5 y6
 obtain ⟨x0, x1, x2, x3, x4, x5, x6⟩ := sixfl X1
 obtain ⟨y0, y1, y2, y3, y4, y5, y6⟩ := sixfl Y1
 rw [decide_eq_false (show ¬ (k = 2 ∧ k' = 2) from fun h => by have := unhide HK; omega)]
 go_wp2_with fail
 refine (both_any _ _ _ _ _ _ _ _ _ _ _ _ _ _ _ _ _ _).mono ?_
 rintro e w2 ⟨rfl, k2⟩
 have X2 := VT.Six.below X1 k2
 have Y2 := VT.Six.below Y1 k2
 have O2 := Own.below O1 k2
 have B2 := bstep B1 k2
 have J2 := hide ((unhide J1).below k2)
 have K2 := hide ((unhide K1).below k2)
 clear k2 X1 Y1 O1 J1 K1 B1 x0 x1 x2 x3 x4 x5 x6 y0 y1 y2 y3 y4 y5 y6
 obtain ⟨x0, x1, x2, x3, x4, x5, x6⟩ := sixfl X2
 obtain ⟨y0, y1, y2, y3, y4, y5, y6⟩ := sixfl Y2
 rw [decide_eq_true (show k = 3 ∧ k' = 3 from unhide HK)]
 go_wp2_with fail
 refine (unhide CM _ (unhide J2) (unhide K2)).mono ?_
 rintro e w3 ⟨rfl, k3⟩
 have X3 := VT.Six.below X2 k3
 have Y3 := VT.Six.below Y2 k3
 have O3 := Own.below O2 k3
 have B3 := bstep B2 k3
 have J3 := hide ((unhide J2).below k3)
 have K3 := hide ((unhide K2).below k3)
 clear k3 X2 Y2 O2 J2 K2 B2 x0 x1 x2 x3 x4 x5 x6 y0 y1 y2 y3 y4 y5 y6
 obtain ⟨x0, x1, x2, x3, x4, x5, x6⟩ := sixfl X3
 obtain ⟨y0, y1, y2, y3, y4, y5, y6⟩ := sixfl Y3
 go_wp2_with fail
 refine (etruth_any _ _).mono ?_
 rintro e w4 ⟨rfl, k4⟩
 have X4 := VT.Six.below X3 k4
 have Y4 := VT.Six.below Y3 k4
 have O4 := Own.below O3 k4
 have B4 := bstep B3 k4
 have J4 := hide ((unhide J3).below k4)
 have K4 := hide ((unhide K3).below k4)
 clear k4 X3 Y3 O3 J3 K3 B3 x0 x1 x2 x3 x4 x5 x6 y0 y1 y2 y3 y4 y5 y6
 obtain ⟨x0, x1, x2, x3, x4, x5, x6⟩ := sixfl X4
 obtain ⟨y0, y1, y2, y3, y4, y5, y6⟩ := sixfl Y4
 unfold lfv
 obtain ⟨u0, t0, t1, t2, t3, t4, t5, f0, f1, f2, f3, f4, f5⟩ := Own.fl O4
 go_wp2_with fail
 exact bodyPost_ret (v := lfv 1 (decide (0 < R)) 0 0 ⟨#[]⟩) zR19lt0t1t2t3t4t5 rfl ⟨rfl, zBL⟩
theorem rel_gen   (x y : VT) (w : World) (hk : kdV x = 2 ∧ kdV y = 2) (hx : x.okB 2 = true) (hy : y.okB 2 = true) (hin : x.In w) (hin' : y.In w) :
  Calls Tryz.prog 19 #[.string ⟨([62, 61]).toArray⟩, x.val, y.val] w fun e w' => e = .returned (lfv 1 (decide (0 ≤ x.cmp y)) 0 0 ⟨#[]⟩) ∧ Below w.heap.size w w' := by
 obtain ⟨k, b, m, s, t, a, len, cap, kid, rfl⟩ := hin.form
 obtain ⟨k', b', m', s', t', a', len', cap', kid', rfl⟩ := hin'.form
 have EQ := hide (fun w h h' => vequal_any (VT.mk k b m s t a len cap kid) (VT.mk k' b' m' s' t' a' len' cap' kid') w hx hy h h')
 have CM := hide (fun w h h' => vcmp_any (VT.mk k b m s t a len cap kid) (VT.mk k' b' m' s' t' a' len' cap' kid') w hx hy h h')
 have BT := boxes2 w k b m s t a len cap k' b' m' s' t' a' len' cap'
 have J0 := hide (hin.below BT.2.2.2.1)
 have K0 := hide (hin'.below BT.2.2.2.1)
 clear hin hin' hx hy
 show Calls Tryz.prog 19 #[.string ⟨([62, 61]).toArray⟩, .agg #[.int .i64 k, .bool b, .int .i64 m, .int .i64 s, .string t, .slice a len cap], .agg #[.int .i64 k', .bool b', .int .i64 m', .int .i64 s', .string t', .slice a' len' cap']] w _
 generalize (VT.mk k b m s t a len cap kid).cmp (VT.mk k' b' m' s' t' a' len' cap' kid') = R at *
 have HK : Hid (k = 2 ∧ k' = 2) := hk
 clear hk
 go_enter Tryz.func19, Tryz.ntmps19
 go_wp2_with fail
 generalize (((w.alloc (Obj.cells #[.int .i64 k, .bool b, .int .i64 m, .int .i64 s, .string t, .slice a len cap] 32)).alloc (Obj.cells #[.int .i64 k', .bool b', .int .i64 m', .int .i64 s', .string t', .slice a' len' cap'] 32)).alloc (Obj.cells #[.int .i64 0, .bool false, .int .i64 0, .int .i64 0, .string ⟨#[]⟩, .slice none 0 0] 32)) = V at *
 obtain ⟨X0, Y0, O0, B0, z0⟩ := BT
 clear z0
 obtain ⟨x0, x1, x2, x3, x4, x5, x6⟩ := sixfl X0
 obtain ⟨y0, y1, y2, y3, y4, y5, y6⟩ := sixfl Y0
 refine (both_any _ _ _ _ _ _ _ _ _ _ _ _ _ _ _ _ _ _).mono ?_
 rintro e w1 ⟨rfl, k1⟩
 have X1 := VT.Six.below X0 k1
 have Y1 := VT.Six.below Y0 k1
 have O1 := Own.below O0 k1
 have B1 := bstep B0 k1
 have J1 := hide ((unhide J0).below k1)
 have K1 := hide ((unhide K0).below k1)
 clear k1 X0 Y0 O0 J0 K0 B0 x0 x1 x2 x3 x4 x5 x6 y0 y1 y2 y3 y4 y5 y6
 obtain ⟨x0, x1, x2, x3, x4, x5, x6⟩ := sixfl X1
 obtain ⟨y0, y1, y2, y3, y4, y5, y6⟩ := sixfl Y1
 rw [decide_eq_true (show k = 2 ∧ k' = 2 from unhide HK)]
 go_wp2_with fail
 refine (unhide CM _ (unhide J1) (unhide K1)).mono ?_
 rintro e w2 ⟨rfl, k2⟩
 have X2 := VT.Six.below X1 k2
 have Y2 := VT.Six.below Y1 k2
 have O2 := Own.below O1 k2
 have B2 := bstep B1 k2
 have J2 := hide ((unhide J1).below k2)
 have K2 := hide ((unhide K1).below k2)
 clear k2 X1 Y1 O1 J1 K1 B1 x0 x1 x2 x3 x4 x5 x6 y0 y1 y2 y3 y4 y5 y6
 obtain ⟨x0, x1, x2, x3, x4, x5, x6⟩ := sixfl X2
 obtain ⟨y0, y1, y2, y3, y4, y5, y6⟩ := sixfl Y2
 go_wp2_with fail
 refine (etruth_any _ _).mono ?_
 rintro e w3 ⟨rfl, k3⟩
 have X3 := VT.Six.below X2 k3
 have Y3 := VT.Six.below Y2 k3
 have O3 := Own.below O2 k3
 have B3 := bstep B2 k3
 have J3 := hide ((unhide J2).below k3)
 have K3 := hide ((unhide K2).below k3)
 clear k3 X2 Y2 O2 J2 K2 B2 x0 x1 x2 x3 x4 x5 x6 y0 y1 y2 y3 y4 y5 y6
 obtain ⟨x0, x1, x2, x3, x4, x5, x6⟩ := sixfl X3
 obtain ⟨y0, y1, y2, y3, y4, y5, y6⟩ := sixfl Y3
 unfold lfv
 obtain ⟨u0, t0, t1, t2, t3, t4, t5, f0, f1, f2, f3, f4, f5⟩ := Own.fl O3
 go_wp2_with fail
 exact bodyPost_ret (v := lfv 1 (decide (0 ≤ R)) 0 0 ⟨#[]⟩) zR19lt0t1t2t3t4t5 rfl ⟨rfl, zBL⟩
theorem rel_get   (x y : VT) (w : World) (hk : kdV x = 3 ∧ kdV y = 3) (hx : x.okB 2 = true) (hy : y.okB 2 = true) (hin : x.In w) (hin' : y.In w) :
  Calls Tryz.prog 19 #[.string ⟨([62, 61]).toArray⟩, x.val, y.val] w fun e w' => e = .returned (lfv 1 (decide (0 ≤ x.cmp y)) 0 0 ⟨#[]⟩) ∧ Below w.heap.size w w' := by
 obtain ⟨k, b, m, s, t, a, len, cap, kid, rfl⟩ := hin.form
 obtain ⟨k', b', m', s', t', a', len', cap', kid', rfl⟩ := hin'.form
 have EQ := hide (fun w h h' => vequal_any (VT.mk k b m s t a len cap kid) (VT.mk k' b' m' s' t' a' len' cap' kid') w hx hy h h')
 have CM := hide (fun w h h' => vcmp_any (VT.mk k b m s t a len cap kid) (VT.mk k' b' m' s' t' a' len' cap' kid') w hx hy h h')
 have BT := boxes2 w k b m s t a len cap k' b' m' s' t' a' len' cap'
 have J0 := hide (hin.below BT.2.2.2.1)
 have K0 := hide (hin'.below BT.2.2.2.1)
 clear hin hin' hx hy
 show Calls Tryz.prog 19 #[.string ⟨([62, 61]).toArray⟩, .agg #[.int .i64 k, .bool b, .int .i64 m, .int .i64 s, .string t, .slice a len cap], .agg #[.int .i64 k', .bool b', .int .i64 m', .int .i64 s', .string t', .slice a' len' cap']] w _
 generalize (VT.mk k b m s t a len cap kid).cmp (VT.mk k' b' m' s' t' a' len' cap' kid') = R at *
 have HK : Hid (k = 3 ∧ k' = 3) := hk
 clear hk
 go_enter Tryz.func19, Tryz.ntmps19
 go_wp2_with fail
 generalize (((w.alloc (Obj.cells #[.int .i64 k, .bool b, .int .i64 m, .int .i64 s, .string t, .slice a len cap] 32)).alloc (Obj.cells #[.int .i64 k', .bool b', .int .i64 m', .int .i64 s', .string t', .slice a' len' cap'] 32)).alloc (Obj.cells #[.int .i64 0, .bool false, .int .i64 0, .int .i64 0, .string ⟨#[]⟩, .slice none 0 0] 32)) = V at *
 obtain ⟨X0, Y0, O0, B0, z0⟩ := BT
 clear z0
 obtain ⟨x0, x1, x2, x3, x4, x5, x6⟩ := sixfl X0
 obtain ⟨y0, y1, y2, y3, y4, y5, y6⟩ := sixfl Y0
 refine (both_any _ _ _ _ _ _ _ _ _ _ _ _ _ _ _ _ _ _).mono ?_
 rintro e w1 ⟨rfl, k1⟩
 have X1 := VT.Six.below X0 k1
 have Y1 := VT.Six.below Y0 k1
 have O1 := Own.below O0 k1
 have B1 := bstep B0 k1
 have J1 := hide ((unhide J0).below k1)
 have K1 := hide ((unhide K0).below k1)
 clear k1 X0 Y0 O0 J0 K0 B0 x0 x1 x2 x3 x4 x5 x6 y0 y1 y2 y3 y4 y5 y6
 obtain ⟨x0, x1, x2, x3, x4, x5, x6⟩ := sixfl X1
 obtain ⟨y0, y1, y2, y3, y4, y5, y6⟩ := sixfl Y1
 rw [decide_eq_false (show ¬ (k = 2 ∧ k' = 2) from fun h => by have := unhide HK; omega)]
 go_wp2_with fail
 refine (both_any _ _ _ _ _ _ _ _ _ _ _ _ _ _ _ _ _ _).mono ?_
 rintro e w2 ⟨rfl, k2⟩
 have X2 := VT.Six.below X1 k2
 have Y2 := VT.Six.below Y1 k2
 have O2 := Own.below O1 k2
 have B2 := bstep B1 k2
 have J2 := hide ((unhide J1).below k2)
 have K2 := hide ((unhide K1).below k2)
 clear k2 X1 Y1 O1 J1 K1 B1 x0 x1 x2 x3 x4 x5 x6 y0 y1 y2 y3 y4 y5 y6
 obtain ⟨x0, x1, x2, x3, x4, x5, x6⟩ := sixfl X2
 obtain ⟨y0, y1, y2, y3, y4, y5, y6⟩ := sixfl Y2
 rw [decide_eq_true (show k = 3 ∧ k' = 3 from unhide HK)]
 go_wp2_with fail
 refine (unhide CM _ (unhide J2) (unhide K2)).mono ?_
 rintro e w3 ⟨rfl, k3⟩
 have X3 := VT.Six.below X2 k3
 have Y3 := VT.Six.below Y2 k3
 have O3 := Own.below O2 k3
 have B3 := bstep B2 k3
 have J3 := hide ((unhide J2).below k3)
 have K3 := hide ((unhide K2).below k3)
 clear k3 X2 Y2 O2 J2 K2 B2 x0 x1 x2 x3 x4 x5 x6 y0 y1 y2 y3 y4 y5 y6
 obtain ⟨x0, x1, x2, x3, x4, x5, x6⟩ := sixfl X3
 obtain ⟨y0, y1, y2, y3, y4, y5, y6⟩ := sixfl Y3
 go_wp2_with fail
 refine (etruth_any _ _).mono ?_
 rintro e w4 ⟨rfl, k4⟩
 have X4 := VT.Six.below X3 k4
 have Y4 := VT.Six.below Y3 k4
 have O4 := Own.below O3 k4
 have B4 := bstep B3 k4
 have J4 := hide ((unhide J3).below k4)
 have K4 := hide ((unhide K3).below k4)
 clear k4 X3 Y3 O3 J3 K3 B3 x0 x1 x2 x3 x4 x5 x6 y0 y1 y2 y3 y4 y5 y6
 obtain ⟨x0, x1, x2, x3, x4, x5, x6⟩ := sixfl X4
 obtain ⟨y0, y1, y2, y3, y4, y5, y6⟩ := sixfl Y4
 unfold lfv
 obtain ⟨u0, t0, t1, t2, t3, t4, t5, f0, f1, f2, f3, f4, f5⟩ := Own.fl O4
 go_wp2_with fail
 exact bodyPost_ret (v := lfv 1 (decide (0 ≤ R)) 0 0 ⟨#[]⟩) zR19lt0t1t2t3t4t5 rfl ⟨rfl, zBL⟩
theorem rel_non (l : List UInt8) (q1 : (l == [61]) = false) (q2 : (l == [33, 61]) = false) (q3 : (l == [60]) = false) (q4 : (l == [60, 61]) = false) (q5 : (l == [62]) = false) (q6 : (l == [62, 61]) = false)  (x y : VT) (w : World) (hk : kdV x = 2 ∧ kdV y = 2) (hx : x.okB 2 = true) (hy : y.okB 2 = true) (hin : x.In w) (hin' : y.In w) :
  Calls Tryz.prog 19 #[.string ⟨(l).toArray⟩, x.val, y.val] w fun e w' => e = .returned (lfv 0 false 0 0 ⟨#[]⟩) ∧ Below w.heap.size w w' := by
 obtain ⟨k, b, m, s, t, a, len, cap, kid, rfl⟩ := hin.form
 obtain ⟨k', b', m', s', t', a', len', cap', kid', rfl⟩ := hin'.form
 have EQ := hide (fun w h h' => vequal_any (VT.mk k b m s t a len cap kid) (VT.mk k' b' m' s' t' a' len' cap' kid') w hx hy h h')
 have CM := hide (fun w h h' => vcmp_any (VT.mk k b m s t a len cap kid) (VT.mk k' b' m' s' t' a' len' cap' kid') w hx hy h h')
 have BT := boxes2 w k b m s t a len cap k' b' m' s' t' a' len' cap'
 have J0 := hide (hin.below BT.2.2.2.1)
 have K0 := hide (hin'.below BT.2.2.2.1)
 clear hin hin' hx hy
 show Calls Tryz.prog 19 #[.string ⟨(l).toArray⟩, .agg #[.int .i64 k, .bool b, .int .i64 m, .int .i64 s, .string t, .slice a len cap], .agg #[.int .i64 k', .bool b', .int .i64 m', .int .i64 s', .string t', .slice a' len' cap']] w _
 generalize (VT.mk k b m s t a len cap kid).cmp (VT.mk k' b' m' s' t' a' len' cap' kid') = R at *
 have HK : Hid (k = 2 ∧ k' = 2) := hk
 clear hk
 go_enter Tryz.func19, Tryz.ntmps19
 go_wp2_with fail
 generalize (((w.alloc (Obj.cells #[.int .i64 k, .bool b, .int .i64 m, .int .i64 s, .string t, .slice a len cap] 32)).alloc (Obj.cells #[.int .i64 k', .bool b', .int .i64 m', .int .i64 s', .string t', .slice a' len' cap'] 32)).alloc (Obj.cells #[.int .i64 0, .bool false, .int .i64 0, .int .i64 0, .string ⟨#[]⟩, .slice none 0 0] 32)) = V at *
 obtain ⟨X0, Y0, O0, B0, z0⟩ := BT
 clear z0
 obtain ⟨x0, x1, x2, x3, x4, x5, x6⟩ := sixfl X0
 obtain ⟨y0, y1, y2, y3, y4, y5, y6⟩ := sixfl Y0
 refine (both_any _ _ _ _ _ _ _ _ _ _ _ _ _ _ _ _ _ _).mono ?_
 rintro e w1 ⟨rfl, k1⟩
 have X1 := VT.Six.below X0 k1
 have Y1 := VT.Six.below Y0 k1
 have O1 := Own.below O0 k1
 have B1 := bstep B0 k1
 have J1 := hide ((unhide J0).below k1)
 have K1 := hide ((unhide K0).below k1)
 clear k1 X0 Y0 O0 J0 K0 B0 x0 x1 x2 x3 x4 x5 x6 y0 y1 y2 y3 y4 y5 y6
 obtain ⟨x0, x1, x2, x3, x4, x5, x6⟩ := sixfl X1
 obtain ⟨y0, y1, y2, y3, y4, y5, y6⟩ := sixfl Y1
 rw [decide_eq_true (show k = 2 ∧ k' = 2 from unhide HK)]
 go_wp2_with fail
 refine (unhide CM _ (unhide J1) (unhide K1)).mono ?_
 rintro e w2 ⟨rfl, k2⟩
 have X2 := VT.Six.below X1 k2
 have Y2 := VT.Six.below Y1 k2
 have O2 := Own.below O1 k2
 have B2 := bstep B1 k2
 have J2 := hide ((unhide J1).below k2)
 have K2 := hide ((unhide K1).below k2)
 clear k2 X1 Y1 O1 J1 K1 B1 x0 x1 x2 x3 x4 x5 x6 y0 y1 y2 y3 y4 y5 y6
 obtain ⟨x0, x1, x2, x3, x4, x5, x6⟩ := sixfl X2
 obtain ⟨y0, y1, y2, y3, y4, y5, y6⟩ := sixfl Y2
 obtain ⟨u0, t0, t1, t2, t3, t4, t5, f0, f1, f2, f3, f4, f5⟩ := Own.fl O2
 go_wp2_with fail
 exact bodyPost_ret (v := lfv 0 false 0 0 ⟨#[]⟩) zR19lt0t1t2t3t4t5 rfl ⟨rfl, zBL⟩
theorem rel_not (l : List UInt8) (q1 : (l == [61]) = false) (q2 : (l == [33, 61]) = false) (q3 : (l == [60]) = false) (q4 : (l == [60, 61]) = false) (q5 : (l == [62]) = false) (q6 : (l == [62, 61]) = false)  (x y : VT) (w : World) (hk : kdV x = 3 ∧ kdV y = 3) (hx : x.okB 2 = true) (hy : y.okB 2 = true) (hin : x.In w) (hin' : y.In w) :
  Calls Tryz.prog 19 #[.string ⟨(l).toArray⟩, x.val, y.val] w fun e w' => e = .returned (lfv 0 false 0 0 ⟨#[]⟩) ∧ Below w.heap.size w w' := by
 obtain ⟨k, b, m, s, t, a, len, cap, kid, rfl⟩ := hin.form
 obtain ⟨k', b', m', s', t', a', len', cap', kid', rfl⟩ := hin'.form
 have EQ := hide (fun w h h' => vequal_any (VT.mk k b m s t a len cap kid) (VT.mk k' b' m' s' t' a' len' cap' kid') w hx hy h h')
 have CM := hide (fun w h h' => vcmp_any (VT.mk k b m s t a len cap kid) (VT.mk k' b' m' s' t' a' len' cap' kid') w hx hy h h')
 have BT := boxes2 w k b m s t a len cap k' b' m' s' t' a' len' cap'
 have J0 := hide (hin.below BT.2.2.2.1)
 have K0 := hide (hin'.below BT.2.2.2.1)
 clear hin hin' hx hy
 show Calls Tryz.prog 19 #[.string ⟨(l).toArray⟩, .agg #[.int .i64 k, .bool b, .int .i64 m, .int .i64 s, .string t, .slice a len cap], .agg #[.int .i64 k', .bool b', .int .i64 m', .int .i64 s', .string t', .slice a' len' cap']] w _
 generalize (VT.mk k b m s t a len cap kid).cmp (VT.mk k' b' m' s' t' a' len' cap' kid') = R at *
 have HK : Hid (k = 3 ∧ k' = 3) := hk
 clear hk
 go_enter Tryz.func19, Tryz.ntmps19
 go_wp2_with fail
 generalize (((w.alloc (Obj.cells #[.int .i64 k, .bool b, .int .i64 m, .int .i64 s, .string t, .slice a len cap] 32)).alloc (Obj.cells #[.int .i64 k', .bool b', .int .i64 m', .int .i64 s', .string t', .slice a' len' cap'] 32)).alloc (Obj.cells #[.int .i64 0, .bool false, .int .i64 0, .int .i64 0, .string ⟨#[]⟩, .slice none 0 0] 32)) = V at *
 obtain ⟨X0, Y0, O0, B0, z0⟩ := BT
 clear z0
 obtain ⟨x0, x1, x2, x3, x4, x5, x6⟩ := sixfl X0
 obtain ⟨y0, y1, y2, y3, y4, y5, y6⟩ := sixfl Y0
 refine (both_any _ _ _ _ _ _ _ _ _ _ _ _ _ _ _ _ _ _).mono ?_
 rintro e w1 ⟨rfl, k1⟩
 have X1 := VT.Six.below X0 k1
 have Y1 := VT.Six.below Y0 k1
 have O1 := Own.below O0 k1
 have B1 := bstep B0 k1
 have J1 := hide ((unhide J0).below k1)
 have K1 := hide ((unhide K0).below k1)
 clear k1 X0 Y0 O0 J0 K0 B0 x0 x1 x2 x3 x4 x5 x6 y0 y1 y2 y3 y4 y5 y6
 obtain ⟨x0, x1, x2, x3, x4, x5, x6⟩ := sixfl X1
 obtain ⟨y0, y1, y2, y3, y4, y5, y6⟩ := sixfl Y1
 rw [decide_eq_false (show ¬ (k = 2 ∧ k' = 2) from fun h => by have := unhide HK; omega)]
 go_wp2_with fail
 refine (both_any _ _ _ _ _ _ _ _ _ _ _ _ _ _ _ _ _ _).mono ?_
 rintro e w2 ⟨rfl, k2⟩
 have X2 := VT.Six.below X1 k2
 have Y2 := VT.Six.below Y1 k2
 have O2 := Own.below O1 k2
 have B2 := bstep B1 k2
 have J2 := hide ((unhide J1).below k2)
 have K2 := hide ((unhide K1).below k2)
 clear k2 X1 Y1 O1 J1 K1 B1 x0 x1 x2 x3 x4 x5 x6 y0 y1 y2 y3 y4 y5 y6
 obtain ⟨x0, x1, x2, x3, x4, x5, x6⟩ := sixfl X2
 obtain ⟨y0, y1, y2, y3, y4, y5, y6⟩ := sixfl Y2
 rw [decide_eq_true (show k = 3 ∧ k' = 3 from unhide HK)]
 go_wp2_with fail
 refine (unhide CM _ (unhide J2) (unhide K2)).mono ?_
 rintro e w3 ⟨rfl, k3⟩
 have X3 := VT.Six.below X2 k3
 have Y3 := VT.Six.below Y2 k3
 have O3 := Own.below O2 k3
 have B3 := bstep B2 k3
 have J3 := hide ((unhide J2).below k3)
 have K3 := hide ((unhide K2).below k3)
 clear k3 X2 Y2 O2 J2 K2 B2 x0 x1 x2 x3 x4 x5 x6 y0 y1 y2 y3 y4 y5 y6
 obtain ⟨x0, x1, x2, x3, x4, x5, x6⟩ := sixfl X3
 obtain ⟨y0, y1, y2, y3, y4, y5, y6⟩ := sixfl Y3
 obtain ⟨u0, t0, t1, t2, t3, t4, t5, f0, f1, f2, f3, f4, f5⟩ := Own.fl O3
 go_wp2_with fail
 exact bodyPost_ret (v := lfv 0 false 0 0 ⟨#[]⟩) zR19lt0t1t2t3t4t5 rfl ⟨rfl, zBL⟩
theorem rel_un (l : List UInt8) (q1 : (l == [61]) = false) (q2 : (l == [33, 61]) = false) (x y : VT) (w : World) (hk : ¬ ((kdV x = 2 ∧ kdV y = 2) ∨ (kdV x = 3 ∧ kdV y = 3))) (hx : x.okB 2 = true) (hy : y.okB 2 = true) (hin : x.In w) (hin' : y.In w) :
  Calls Tryz.prog 19 #[.string ⟨(l).toArray⟩, x.val, y.val] w fun e w' => e = .returned (lfv 0 false 0 0 ⟨#[]⟩) ∧ Below w.heap.size w w' := by
 obtain ⟨k, b, m, s, t, a, len, cap, kid, rfl⟩ := hin.form
 obtain ⟨k', b', m', s', t', a', len', cap', kid', rfl⟩ := hin'.form
 have EQ := hide (fun w h h' => vequal_any (VT.mk k b m s t a len cap kid) (VT.mk k' b' m' s' t' a' len' cap' kid') w hx hy h h')
 have CM := hide (fun w h h' => vcmp_any (VT.mk k b m s t a len cap kid) (VT.mk k' b' m' s' t' a' len' cap' kid') w hx hy h h')
 have BT := boxes2 w k b m s t a len cap k' b' m' s' t' a' len' cap'
 have J0 := hide (hin.below BT.2.2.2.1)
 have K0 := hide (hin'.below BT.2.2.2.1)
 clear hin hin' hx hy
 show Calls Tryz.prog 19 #[.string ⟨(l).toArray⟩, .agg #[.int .i64 k, .bool b, .int .i64 m, .int .i64 s, .string t, .slice a len cap], .agg #[.int .i64 k', .bool b', .int .i64 m', .int .i64 s', .string t', .slice a' len' cap']] w _
 clear EQ CM
 have HK : Hid (¬ ((k = 2 ∧ k' = 2) ∨ (k = 3 ∧ k' = 3))) := hk
 clear hk
 go_enter Tryz.func19, Tryz.ntmps19
 go_wp2_with fail
 generalize (((w.alloc (Obj.cells #[.int .i64 k, .bool b, .int .i64 m, .int .i64 s, .string t, .slice a len cap] 32)).alloc (Obj.cells #[.int .i64 k', .bool b', .int .i64 m', .int .i64 s', .string t', .slice a' len' cap'] 32)).alloc (Obj.cells #[.int .i64 0, .bool false, .int .i64 0, .int .i64 0, .string ⟨#[]⟩, .slice none 0 0] 32)) = V at *
 obtain ⟨X0, Y0, O0, B0, z0⟩ := BT
 clear z0
 obtain ⟨x0, x1, x2, x3, x4, x5, x6⟩ := sixfl X0
 obtain ⟨y0, y1, y2, y3, y4, y5, y6⟩ := sixfl Y0
 refine (both_any _ _ _ _ _ _ _ _ _ _ _ _ _ _ _ _ _ _).mono ?_
 rintro e w1 ⟨rfl, k1⟩
 have X1 := VT.Six.below X0 k1
 have Y1 := VT.Six.below Y0 k1
 have O1 := Own.below O0 k1
 have B1 := bstep B0 k1
 have J1 := hide ((unhide J0).below k1)
 have K1 := hide ((unhide K0).below k1)
 clear k1 X0 Y0 O0 J0 K0 B0 x0 x1 x2 x3 x4 x5 x6 y0 y1 y2 y3 y4 y5 y6
 obtain ⟨x0, x1, x2, x3, x4, x5, x6⟩ := sixfl X1
 obtain ⟨y0, y1, y2, y3, y4, y5, y6⟩ := sixfl Y1
 rw [decide_eq_false (show ¬ (k = 2 ∧ k' = 2) from fun h => (unhide HK) (.inl h))]
 go_wp2_with fail
 refine (both_any _ _ _ _ _ _ _ _ _ _ _ _ _ _ _ _ _ _).mono ?_
 rintro e w2 ⟨rfl, k2⟩
 have X2 := VT.Six.below X1 k2
 have Y2 := VT.Six.below Y1 k2
 have O2 := Own.below O1 k2
 have B2 := bstep B1 k2
 have J2 := hide ((unhide J1).below k2)
 have K2 := hide ((unhide K1).below k2)
 clear k2 X1 Y1 O1 J1 K1 B1 x0 x1 x2 x3 x4 x5 x6 y0 y1 y2 y3 y4 y5 y6
 obtain ⟨x0, x1, x2, x3, x4, x5, x6⟩ := sixfl X2
 obtain ⟨y0, y1, y2, y3, y4, y5, y6⟩ := sixfl Y2
 rw [decide_eq_false (show ¬ (k = 3 ∧ k' = 3) from fun h => (unhide HK) (.inr h))]
 obtain ⟨u0, t0, t1, t2, t3, t4, t5, f0, f1, f2, f3, f4, f5⟩ := Own.fl O2
 go_wp2_with fail
 exact bodyPost_ret (v := lfv 0 false 0 0 ⟨#[]⟩) zR19lt0t1t2t3t4t5 rfl ⟨rfl, zBL⟩
theorem rel_any (l : List UInt8) (x y : VT) (w : World) (hx : x.okB 2 = true) (hy : y.okB 2 = true) (hin : x.In w) (hin' : y.In w) :
  Calls Tryz.prog 19 #[.string ⟨l.toArray⟩, x.val, y.val] w fun e w' => e = .returned (relT l x y).val ∧ Below w.heap.size w w' := by
 unfold relT
 by_cases h1 : l = [61]
 ·subst h1; rw [if_pos rfl]; exact rel_eq x y w hx hy hin hin'
 rw [if_neg h1]
 by_cases h2 : l = [33, 61]
 ·subst h2; rw [if_pos rfl]; exact rel_ne x y w hx hy hin hin'
 rw [if_neg h2]
 by_cases hk : (kdV x = 2 ∧ kdV y = 2) ∨ (kdV x = 3 ∧ kdV y = 3)
 ·rw [if_pos hk]
  by_cases h3 : l = [60]
  ·subst h3; rw [if_pos rfl]; rcases hk with hk | hk; exact rel_ltn x y w hk hx hy hin hin'; exact rel_ltt x y w hk hx hy hin hin'
  rw [if_neg h3]
  by_cases h4 : l = [60, 61]
  ·subst h4; rw [if_pos rfl]; rcases hk with hk | hk; exact rel_len x y w hk hx hy hin hin'; exact rel_let x y w hk hx hy hin hin'
  rw [if_neg h4]
  by_cases h5 : l = [62]
  ·subst h5; rw [if_pos rfl]; rcases hk with hk | hk; exact rel_gtn x y w hk hx hy hin hin'; exact rel_gtt x y w hk hx hy hin hin'
  rw [if_neg h5]
  by_cases h6 : l = [62, 61]
  ·subst h6; rw [if_pos rfl]; rcases hk with hk | hk; exact rel_gen x y w hk hx hy hin hin'; exact rel_get x y w hk hx hy hin hin'
  rw [if_neg h6]
  have q1 : (l == [61]) = false := by simpa using h1
  have q2 : (l == [33, 61]) = false := by simpa using h2
  have q3 : (l == [60]) = false := by simpa using h3
  have q4 : (l == [60, 61]) = false := by simpa using h4
  have q5 : (l == [62]) = false := by simpa using h5
  have q6 : (l == [62, 61]) = false := by simpa using h6
  rcases hk with hk | hk
  ·exact rel_non l q1 q2 q3 q4 q5 q6 x y w hk hx hy hin hin'
  ·exact rel_not l q1 q2 q3 q4 q5 q6 x y w hk hx hy hin hin'
 ·rw [if_neg hk]
  exact rel_un l (by simpa using h1) (by simpa using h2) x y w hk hx hy hin hin'
end
section
theorem mul_bd2 {m n : Int} (m1 : -1000000000 ≤ m) (m2 : m ≤ 1000000000) (n1 : -1000000000 ≤ n) (n2 : n ≤ 1000000000) : -1000000000000000000 ≤ m * n ∧ m * n ≤ 1000000000000000000 := by
 by_cases h : 0 ≤ n
 ·have := mul_bd m n 1000000000 1000000000 m1 m2 h n2 (by omega); omega
 ·have := mul_bd m (-n) 1000000000 1000000000 m1 m2 (by omega) (by omega) (by omega)
  rw [Int.mul_neg] at this; omega
theorem mul_any (m s n t : Int) (w : World) (ha : isB m s = true) (hb : isB n t = true) :
  Calls Tryz.prog 117 #[.agg #[.int .i64 m, .int .i64 s], .agg #[.int .i64 n, .int .i64 t]] w fun e w' => e = .returned (.tuple #[.agg #[.int .i64 (fitM (m * n) (s + t)), .int .i64 (fitS (m * n) (s + t))], .int .i64 (fitE (m * n) (s + t))]) ∧ Below w.heap.size w w' := by
 have ⟨m1, m2, s1, s2⟩ := isB_bd ha
 have ⟨n1, n2, t1, t2⟩ := isB_bd hb
 have mb := mul_bd2 m1 m2 n1 n2
 have HA := hide ha; have HB := hide hb
 clear ha hb
 go_enter Tryz.func117, Tryz.ntmps117
 go_wp2_with fail
 refine (is_any _ _ _).mono ?_
 rintro e w1 ⟨rfl, b1⟩
 rw [unhide HA]
 obtain ⟨c1, f1⟩ := bcell b1
 go_wp2_with fail
 refine (is_any _ _ _).mono ?_
 rintro e w2 ⟨rfl, k2⟩
 rw [unhide HB]
 have b2 := bstep b1 k2
 clear c1 f1 b1 k2
 obtain ⟨c2, f2⟩ := bcell b2
 clear HA HB
 go_wp2_with fail
 refine (fit_any _ _ _).mono ?_
 rintro e w4 ⟨rfl, k4⟩
 have b4 := bstep b2 k4
 clear c2 f2 b2 k4
 obtain ⟨c4, f4⟩ := bcell b4
 have z4 : w.heap.size + 2 < w4.heap.size := by have := b4.size; simp at this; omega
 go_wp2
 refine bodyPost_ret (v := .tuple #[.agg #[.int .i64 (fitM _ _), .int .i64 (fitS _ _)], .int .i64 (fitE _ _)]) (by simp [results, Tryz.results117, go_sem, c4]) rfl ⟨rfl, ?_⟩
 exact ((bstep (below3 w _ _ _) b4).setCell (by simp; omega) _).setCell (by simp; omega) _
end
end Go.Proofs.YtfdimdjmnfdecaaGreat

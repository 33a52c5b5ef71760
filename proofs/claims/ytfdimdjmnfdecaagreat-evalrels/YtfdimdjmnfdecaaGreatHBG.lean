/- RRel: laid together. -/
import Derived.Test.YtfdimdjmnfdecaaGreatHZ
import Derived.Test.YtfdimdjmnfdecaaGreatHAD
import Derived.Test.YtfdimdjmnfdecaaGreatHBF
import Derived.Test.YtfdimdjmnfdecaaGreatHBC
import Derived.Test.YtfdimdjmnfdecaaGreatHAB
/- The contract of the document's own Rel. (Printed by mkrrel.py.) -/
namespace Go.Proofs.YtfdimdjmnfdecaaGreat
open Go.RowKit
open VT (leaf mkV)
set_option linter.unusedVariables false
set_option linter.unusedSimpArgs false

set_option maxHeartbeats 4000000 in
theorem rrel_eq  (x y : VT) (w : World) (hx : x.okB 2 = true) (hy : y.okB 2 = true) (hin : x.In w) (hin' : y.In w) :
  Calls Tryz.prog 20 #[.string ⟨([61]).toArray⟩, x.val, y.val] w fun e w' => e = .returned (lfv 1 (x.cmp y == 0) 0 0 ⟨#[]⟩) ∧ Below w.heap.size w w' := by
 obtain ⟨k, b, m, s, t, a, len, cap, kid, rfl⟩ := hin.form
 obtain ⟨k', b', m', s', t', a', len', cap', kid', rfl⟩ := hin'.form
 have CM := hide (fun w h h' => rCmp_any (VT.mk k b m s t a len cap kid) (VT.mk k' b' m' s' t' a' len' cap' kid') 2 2 w hx hy h h')
 have BT := boxes2 w k b m s t a len cap k' b' m' s' t' a' len' cap'
 have J0 := hide (hin.below BT.2.2.2.1)
 have K0 := hide (hin'.below BT.2.2.2.1)
 clear hin hin' hx hy
 show Calls Tryz.prog 20 #[.string ⟨([61]).toArray⟩, .agg #[.int .i64 k, .bool b, .int .i64 m, .int .i64 s, .string t, .slice a len cap], .agg #[.int .i64 k', .bool b', .int .i64 m', .int .i64 s', .string t', .slice a' len' cap']] w _
 generalize (VT.mk k b m s t a len cap kid).cmp (VT.mk k' b' m' s' t' a' len' cap' kid') = R at *
 go_enter Tryz.func20, Tryz.ntmps20
 go_wp2_with fail
 generalize (((w.alloc (Obj.cells #[.int .i64 k, .bool b, .int .i64 m, .int .i64 s, .string t, .slice a len cap] 32)).alloc (Obj.cells #[.int .i64 k', .bool b', .int .i64 m', .int .i64 s', .string t', .slice a' len' cap'] 32)).alloc (Obj.cells #[.int .i64 0, .bool false, .int .i64 0, .int .i64 0, .string ⟨#[]⟩, .slice none 0 0] 32)) = V at *
 obtain ⟨X0, Y0, O0, B0, z0⟩ := BT
 clear z0
 obtain ⟨x0, x1, x2, x3, x4, x5, x6⟩ := id X0
 obtain ⟨y0, y1, y2, y3, y4, y5, y6⟩ := id Y0
 simp only [Nat.zero_add] at x1 x2 x3 x4 x5 x6 y1 y2 y3 y4 y5 y6
 go_wp2_with fail
 refine (unhide CM _ (unhide J0) (unhide K0)).mono ?_
 rintro e w1 ⟨rfl, k1⟩
 have X1 := VT.Six.below X0 k1
 have Y1 := VT.Six.below Y0 k1
 have O1 := Own.below O0 k1
 have B1 := bstep B0 k1
 clear k1 X0 Y0 O0 B0 J0 K0 CM x0 x1 x2 x3 x4 x5 x6 y0 y1 y2 y3 y4 y5 y6
 obtain ⟨x0, x1, x2, x3, x4, x5, x6⟩ := id X1
 obtain ⟨y0, y1, y2, y3, y4, y5, y6⟩ := id Y1
 simp only [Nat.zero_add] at x1 x2 x3 x4 x5 x6 y1 y2 y3 y4 y5 y6
 go_wp2_with fail
 refine (rof_any _ _).mono ?_
 rintro e w2 ⟨rfl, k2⟩
 have O2 := Own.below O1 k2
 have B2 := bstep B1 k2
 clear k2 O1 B1
 unfold tval
 obtain ⟨⟨u0, t0, t1, t2, t3, t4, t5⟩, f0, f1, f2, f3, f4, f5⟩ := id O2
 simp only [Nat.zero_add] at t0 t1 t2 t3 t4 t5
 go_wp2_with fail
 exact bodyPost_ret (v := lfv 1 (R == 0) 0 0 ⟨#[]⟩) zR20lt0t1t2t3t4t5 rfl ⟨rfl, zBL⟩

set_option maxHeartbeats 4000000 in
theorem rrel_ne  (x y : VT) (w : World) (hx : x.okB 2 = true) (hy : y.okB 2 = true) (hin : x.In w) (hin' : y.In w) :
  Calls Tryz.prog 20 #[.string ⟨([33, 61]).toArray⟩, x.val, y.val] w fun e w' => e = .returned (lfv 1 (!(x.cmp y == 0)) 0 0 ⟨#[]⟩) ∧ Below w.heap.size w w' := by
 obtain ⟨k, b, m, s, t, a, len, cap, kid, rfl⟩ := hin.form
 obtain ⟨k', b', m', s', t', a', len', cap', kid', rfl⟩ := hin'.form
 have CM := hide (fun w h h' => rCmp_any (VT.mk k b m s t a len cap kid) (VT.mk k' b' m' s' t' a' len' cap' kid') 2 2 w hx hy h h')
 have BT := boxes2 w k b m s t a len cap k' b' m' s' t' a' len' cap'
 have J0 := hide (hin.below BT.2.2.2.1)
 have K0 := hide (hin'.below BT.2.2.2.1)
 clear hin hin' hx hy
 show Calls Tryz.prog 20 #[.string ⟨([33, 61]).toArray⟩, .agg #[.int .i64 k, .bool b, .int .i64 m, .int .i64 s, .string t, .slice a len cap], .agg #[.int .i64 k', .bool b', .int .i64 m', .int .i64 s', .string t', .slice a' len' cap']] w _
 generalize (VT.mk k b m s t a len cap kid).cmp (VT.mk k' b' m' s' t' a' len' cap' kid') = R at *
 go_enter Tryz.func20, Tryz.ntmps20
 go_wp2_with fail
 generalize (((w.alloc (Obj.cells #[.int .i64 k, .bool b, .int .i64 m, .int .i64 s, .string t, .slice a len cap] 32)).alloc (Obj.cells #[.int .i64 k', .bool b', .int .i64 m', .int .i64 s', .string t', .slice a' len' cap'] 32)).alloc (Obj.cells #[.int .i64 0, .bool false, .int .i64 0, .int .i64 0, .string ⟨#[]⟩, .slice none 0 0] 32)) = V at *
 obtain ⟨X0, Y0, O0, B0, z0⟩ := BT
 clear z0
 obtain ⟨x0, x1, x2, x3, x4, x5, x6⟩ := id X0
 obtain ⟨y0, y1, y2, y3, y4, y5, y6⟩ := id Y0
 simp only [Nat.zero_add] at x1 x2 x3 x4 x5 x6 y1 y2 y3 y4 y5 y6
 go_wp2_with fail
 refine (unhide CM _ (unhide J0) (unhide K0)).mono ?_
 rintro e w1 ⟨rfl, k1⟩
 have X1 := VT.Six.below X0 k1
 have Y1 := VT.Six.below Y0 k1
 have O1 := Own.below O0 k1
 have B1 := bstep B0 k1
 clear k1 X0 Y0 O0 B0 J0 K0 CM x0 x1 x2 x3 x4 x5 x6 y0 y1 y2 y3 y4 y5 y6
 obtain ⟨x0, x1, x2, x3, x4, x5, x6⟩ := id X1
 obtain ⟨y0, y1, y2, y3, y4, y5, y6⟩ := id Y1
 simp only [Nat.zero_add] at x1 x2 x3 x4 x5 x6 y1 y2 y3 y4 y5 y6
 go_wp2_with fail
 refine (rof_any _ _).mono ?_
 rintro e w2 ⟨rfl, k2⟩
 have O2 := Own.below O1 k2
 have B2 := bstep B1 k2
 clear k2 O1 B1
 unfold tval
 obtain ⟨⟨u0, t0, t1, t2, t3, t4, t5⟩, f0, f1, f2, f3, f4, f5⟩ := id O2
 simp only [Nat.zero_add] at t0 t1 t2 t3 t4 t5
 go_wp2_with fail
 exact bodyPost_ret (v := lfv 1 (R != 0) 0 0 ⟨#[]⟩) zR20lt0t1t2t3t4t5 rfl ⟨rfl, zBL⟩

set_option maxHeartbeats 4000000 in
theorem rrel_ltn  (x y : VT) (w : World) (hk : kdV x = 2 ∧ kdV y = 2) (hx : x.okB 2 = true) (hy : y.okB 2 = true) (hin : x.In w) (hin' : y.In w) :
  Calls Tryz.prog 20 #[.string ⟨([60]).toArray⟩, x.val, y.val] w fun e w' => e = .returned (lfv 1 (decide (x.cmp y < 0)) 0 0 ⟨#[]⟩) ∧ Below w.heap.size w w' := by
 obtain ⟨k, b, m, s, t, a, len, cap, kid, rfl⟩ := hin.form
 obtain ⟨k', b', m', s', t', a', len', cap', kid', rfl⟩ := hin'.form
 have CM := hide (fun w h h' => rCmp_any (VT.mk k b m s t a len cap kid) (VT.mk k' b' m' s' t' a' len' cap' kid') 2 2 w hx hy h h')
 have BT := boxes2 w k b m s t a len cap k' b' m' s' t' a' len' cap'
 have J0 := hide (hin.below BT.2.2.2.1)
 have K0 := hide (hin'.below BT.2.2.2.1)
 clear hin hin' hx hy
 show Calls Tryz.prog 20 #[.string ⟨([60]).toArray⟩, .agg #[.int .i64 k, .bool b, .int .i64 m, .int .i64 s, .string t, .slice a len cap], .agg #[.int .i64 k', .bool b', .int .i64 m', .int .i64 s', .string t', .slice a' len' cap']] w _
 generalize (VT.mk k b m s t a len cap kid).cmp (VT.mk k' b' m' s' t' a' len' cap' kid') = R at *
 obtain ⟨hk1, hk2⟩ : k = 2 ∧ k' = 2 := hk
 subst hk1 hk2
 go_enter Tryz.func20, Tryz.ntmps20
 go_wp2_with fail
 generalize (((w.alloc (Obj.cells #[.int .i64 2, .bool b, .int .i64 m, .int .i64 s, .string t, .slice a len cap] 32)).alloc (Obj.cells #[.int .i64 2, .bool b', .int .i64 m', .int .i64 s', .string t', .slice a' len' cap'] 32)).alloc (Obj.cells #[.int .i64 0, .bool false, .int .i64 0, .int .i64 0, .string ⟨#[]⟩, .slice none 0 0] 32)) = V at *
 obtain ⟨X0, Y0, O0, B0, z0⟩ := BT
 clear z0
 obtain ⟨x0, x1, x2, x3, x4, x5, x6⟩ := id X0
 obtain ⟨y0, y1, y2, y3, y4, y5, y6⟩ := id Y0
 simp only [Nat.zero_add] at x1 x2 x3 x4 x5 x6 y1 y2 y3 y4 y5 y6
 go_wp2_with fail
 refine (unhide CM _ (unhide J0) (unhide K0)).mono ?_
 rintro e w1 ⟨rfl, k1⟩
 have X1 := VT.Six.below X0 k1
 have Y1 := VT.Six.below Y0 k1
 have O1 := Own.below O0 k1
 have B1 := bstep B0 k1
 clear k1 X0 Y0 O0 B0 J0 K0 CM x0 x1 x2 x3 x4 x5 x6 y0 y1 y2 y3 y4 y5 y6
 obtain ⟨x0, x1, x2, x3, x4, x5, x6⟩ := id X1
 obtain ⟨y0, y1, y2, y3, y4, y5, y6⟩ := id Y1
 simp only [Nat.zero_add] at x1 x2 x3 x4 x5 x6 y1 y2 y3 y4 y5 y6
 go_wp2_with fail
 refine (rof_any _ _).mono ?_
 rintro e w2 ⟨rfl, k2⟩
 have O2 := Own.below O1 k2
 have B2 := bstep B1 k2
 clear k2 O1 B1
 unfold tval
 obtain ⟨⟨u0, t0, t1, t2, t3, t4, t5⟩, f0, f1, f2, f3, f4, f5⟩ := id O2
 simp only [Nat.zero_add] at t0 t1 t2 t3 t4 t5
 go_wp2_with fail
 exact bodyPost_ret (v := lfv 1 (decide (R < 0)) 0 0 ⟨#[]⟩) zR20lt0t1t2t3t4t5 rfl ⟨rfl, zBL⟩

set_option maxHeartbeats 4000000 in
theorem rrel_ltt  (x y : VT) (w : World) (hk : kdV x = 3 ∧ kdV y = 3) (hx : x.okB 2 = true) (hy : y.okB 2 = true) (hin : x.In w) (hin' : y.In w) :
  Calls Tryz.prog 20 #[.string ⟨([60]).toArray⟩, x.val, y.val] w fun e w' => e = .returned (lfv 1 (decide (x.cmp y < 0)) 0 0 ⟨#[]⟩) ∧ Below w.heap.size w w' := by
 obtain ⟨k, b, m, s, t, a, len, cap, kid, rfl⟩ := hin.form
 obtain ⟨k', b', m', s', t', a', len', cap', kid', rfl⟩ := hin'.form
 have CM := hide (fun w h h' => rCmp_any (VT.mk k b m s t a len cap kid) (VT.mk k' b' m' s' t' a' len' cap' kid') 2 2 w hx hy h h')
 have BT := boxes2 w k b m s t a len cap k' b' m' s' t' a' len' cap'
 have J0 := hide (hin.below BT.2.2.2.1)
 have K0 := hide (hin'.below BT.2.2.2.1)
 clear hin hin' hx hy
 show Calls Tryz.prog 20 #[.string ⟨([60]).toArray⟩, .agg #[.int .i64 k, .bool b, .int .i64 m, .int .i64 s, .string t, .slice a len cap], .agg #[.int .i64 k', .bool b', .int .i64 m', .int .i64 s', .string t', .slice a' len' cap']] w _
 generalize (VT.mk k b m s t a len cap kid).cmp (VT.mk k' b' m' s' t' a' len' cap' kid') = R at *
 obtain ⟨hk1, hk2⟩ : k = 3 ∧ k' = 3 := hk
 subst hk1 hk2
 go_enter Tryz.func20, Tryz.ntmps20
 go_wp2_with fail
 generalize (((w.alloc (Obj.cells #[.int .i64 3, .bool b, .int .i64 m, .int .i64 s, .string t, .slice a len cap] 32)).alloc (Obj.cells #[.int .i64 3, .bool b', .int .i64 m', .int .i64 s', .string t', .slice a' len' cap'] 32)).alloc (Obj.cells #[.int .i64 0, .bool false, .int .i64 0, .int .i64 0, .string ⟨#[]⟩, .slice none 0 0] 32)) = V at *
 obtain ⟨X0, Y0, O0, B0, z0⟩ := BT
 clear z0
 obtain ⟨x0, x1, x2, x3, x4, x5, x6⟩ := id X0
 obtain ⟨y0, y1, y2, y3, y4, y5, y6⟩ := id Y0
 simp only [Nat.zero_add] at x1 x2 x3 x4 x5 x6 y1 y2 y3 y4 y5 y6
 go_wp2_with fail
 refine (unhide CM _ (unhide J0) (unhide K0)).mono ?_
 rintro e w1 ⟨rfl, k1⟩
 have X1 := VT.Six.below X0 k1
 have Y1 := VT.Six.below Y0 k1
 have O1 := Own.below O0 k1
 have B1 := bstep B0 k1
 clear k1 X0 Y0 O0 B0 J0 K0 CM x0 x1 x2 x3 x4 x5 x6 y0 y1 y2 y3 y4 y5 y6
 obtain ⟨x0, x1, x2, x3, x4, x5, x6⟩ := id X1
 obtain ⟨y0, y1, y2, y3, y4, y5, y6⟩ := id Y1
 simp only [Nat.zero_add] at x1 x2 x3 x4 x5 x6 y1 y2 y3 y4 y5 y6
 go_wp2_with fail
 refine (rof_any _ _).mono ?_
 rintro e w2 ⟨rfl, k2⟩
 have O2 := Own.below O1 k2
 have B2 := bstep B1 k2
 clear k2 O1 B1
 unfold tval
 obtain ⟨⟨u0, t0, t1, t2, t3, t4, t5⟩, f0, f1, f2, f3, f4, f5⟩ := id O2
 simp only [Nat.zero_add] at t0 t1 t2 t3 t4 t5
 go_wp2_with fail
 exact bodyPost_ret (v := lfv 1 (decide (R < 0)) 0 0 ⟨#[]⟩) zR20lt0t1t2t3t4t5 rfl ⟨rfl, zBL⟩

set_option maxHeartbeats 4000000 in
theorem rrel_len  (x y : VT) (w : World) (hk : kdV x = 2 ∧ kdV y = 2) (hx : x.okB 2 = true) (hy : y.okB 2 = true) (hin : x.In w) (hin' : y.In w) :
  Calls Tryz.prog 20 #[.string ⟨([60, 61]).toArray⟩, x.val, y.val] w fun e w' => e = .returned (lfv 1 (decide (x.cmp y ≤ 0)) 0 0 ⟨#[]⟩) ∧ Below w.heap.size w w' := by
 obtain ⟨k, b, m, s, t, a, len, cap, kid, rfl⟩ := hin.form
 obtain ⟨k', b', m', s', t', a', len', cap', kid', rfl⟩ := hin'.form
 have CM := hide (fun w h h' => rCmp_any (VT.mk k b m s t a len cap kid) (VT.mk k' b' m' s' t' a' len' cap' kid') 2 2 w hx hy h h')
 have BT := boxes2 w k b m s t a len cap k' b' m' s' t' a' len' cap'
 have J0 := hide (hin.below BT.2.2.2.1)
 have K0 := hide (hin'.below BT.2.2.2.1)
 clear hin hin' hx hy
 show Calls Tryz.prog 20 #[.string ⟨([60, 61]).toArray⟩, .agg #[.int .i64 k, .bool b, .int .i64 m, .int .i64 s, .string t, .slice a len cap], .agg #[.int .i64 k', .bool b', .int .i64 m', .int .i64 s', .string t', .slice a' len' cap']] w _
 generalize (VT.mk k b m s t a len cap kid).cmp (VT.mk k' b' m' s' t' a' len' cap' kid') = R at *
 obtain ⟨hk1, hk2⟩ : k = 2 ∧ k' = 2 := hk
 subst hk1 hk2
 go_enter Tryz.func20, Tryz.ntmps20
 go_wp2_with fail
 generalize (((w.alloc (Obj.cells #[.int .i64 2, .bool b, .int .i64 m, .int .i64 s, .string t, .slice a len cap] 32)).alloc (Obj.cells #[.int .i64 2, .bool b', .int .i64 m', .int .i64 s', .string t', .slice a' len' cap'] 32)).alloc (Obj.cells #[.int .i64 0, .bool false, .int .i64 0, .int .i64 0, .string ⟨#[]⟩, .slice none 0 0] 32)) = V at *
 obtain ⟨X0, Y0, O0, B0, z0⟩ := BT
 clear z0
 obtain ⟨x0, x1, x2, x3, x4, x5, x6⟩ := id X0
 obtain ⟨y0, y1, y2, y3, y4, y5, y6⟩ := id Y0
 simp only [Nat.zero_add] at x1 x2 x3 x4 x5 x6 y1 y2 y3 y4 y5 y6
 go_wp2_with fail
 refine (unhide CM _ (unhide J0) (unhide K0)).mono ?_
 rintro e w1 ⟨rfl, k1⟩
 have X1 := VT.Six.below X0 k1
 have Y1 := VT.Six.below Y0 k1
 have O1 := Own.below O0 k1
 have B1 := bstep B0 k1
 clear k1 X0 Y0 O0 B0 J0 K0 CM x0 x1 x2 x3 x4 x5 x6 y0 y1 y2 y3 y4 y5 y6
 obtain ⟨x0, x1, x2, x3, x4, x5, x6⟩ := id X1
 obtain ⟨y0, y1, y2, y3, y4, y5, y6⟩ := id Y1
 simp only [Nat.zero_add] at x1 x2 x3 x4 x5 x6 y1 y2 y3 y4 y5 y6
 go_wp2_with fail
 refine (rof_any _ _).mono ?_
 rintro e w2 ⟨rfl, k2⟩
 have O2 := Own.below O1 k2
 have B2 := bstep B1 k2
 clear k2 O1 B1
 unfold tval
 obtain ⟨⟨u0, t0, t1, t2, t3, t4, t5⟩, f0, f1, f2, f3, f4, f5⟩ := id O2
 simp only [Nat.zero_add] at t0 t1 t2 t3 t4 t5
 go_wp2_with fail
 exact bodyPost_ret (v := lfv 1 (decide (R ≤ 0)) 0 0 ⟨#[]⟩) zR20lt0t1t2t3t4t5 rfl ⟨rfl, zBL⟩

set_option maxHeartbeats 4000000 in
theorem rrel_let  (x y : VT) (w : World) (hk : kdV x = 3 ∧ kdV y = 3) (hx : x.okB 2 = true) (hy : y.okB 2 = true) (hin : x.In w) (hin' : y.In w) :
  Calls Tryz.prog 20 #[.string ⟨([60, 61]).toArray⟩, x.val, y.val] w fun e w' => e = .returned (lfv 1 (decide (x.cmp y ≤ 0)) 0 0 ⟨#[]⟩) ∧ Below w.heap.size w w' := by
 obtain ⟨k, b, m, s, t, a, len, cap, kid, rfl⟩ := hin.form
 obtain ⟨k', b', m', s', t', a', len', cap', kid', rfl⟩ := hin'.form
 have CM := hide (fun w h h' => rCmp_any (VT.mk k b m s t a len cap kid) (VT.mk k' b' m' s' t' a' len' cap' kid') 2 2 w hx hy h h')
 have BT := boxes2 w k b m s t a len cap k' b' m' s' t' a' len' cap'
 have J0 := hide (hin.below BT.2.2.2.1)
 have K0 := hide (hin'.below BT.2.2.2.1)
 clear hin hin' hx hy
 show Calls Tryz.prog 20 #[.string ⟨([60, 61]).toArray⟩, .agg #[.int .i64 k, .bool b, .int .i64 m, .int .i64 s, .string t, .slice a len cap], .agg #[.int .i64 k', .bool b', .int .i64 m', .int .i64 s', .string t', .slice a' len' cap']] w _
 generalize (VT.mk k b m s t a len cap kid).cmp (VT.mk k' b' m' s' t' a' len' cap' kid') = R at *
 obtain ⟨hk1, hk2⟩ : k = 3 ∧ k' = 3 := hk
 subst hk1 hk2
 go_enter Tryz.func20, Tryz.ntmps20
 go_wp2_with fail
 generalize (((w.alloc (Obj.cells #[.int .i64 3, .bool b, .int .i64 m, .int .i64 s, .string t, .slice a len cap] 32)).alloc (Obj.cells #[.int .i64 3, .bool b', .int .i64 m', .int .i64 s', .string t', .slice a' len' cap'] 32)).alloc (Obj.cells #[.int .i64 0, .bool false, .int .i64 0, .int .i64 0, .string ⟨#[]⟩, .slice none 0 0] 32)) = V at *
 obtain ⟨X0, Y0, O0, B0, z0⟩ := BT
 clear z0
 obtain ⟨x0, x1, x2, x3, x4, x5, x6⟩ := id X0
 obtain ⟨y0, y1, y2, y3, y4, y5, y6⟩ := id Y0
 simp only [Nat.zero_add] at x1 x2 x3 x4 x5 x6 y1 y2 y3 y4 y5 y6
 go_wp2_with fail
 refine (unhide CM _ (unhide J0) (unhide K0)).mono ?_
 rintro e w1 ⟨rfl, k1⟩
 have X1 := VT.Six.below X0 k1
 have Y1 := VT.Six.below Y0 k1
 have O1 := Own.below O0 k1
 have B1 := bstep B0 k1
 clear k1 X0 Y0 O0 B0 J0 K0 CM x0 x1 x2 x3 x4 x5 x6 y0 y1 y2 y3 y4 y5 y6
 obtain ⟨x0, x1, x2, x3, x4, x5, x6⟩ := id X1
 obtain ⟨y0, y1, y2, y3, y4, y5, y6⟩ := id Y1
 simp only [Nat.zero_add] at x1 x2 x3 x4 x5 x6 y1 y2 y3 y4 y5 y6
 go_wp2_with fail
 refine (rof_any _ _).mono ?_
 rintro e w2 ⟨rfl, k2⟩
 have O2 := Own.below O1 k2
 have B2 := bstep B1 k2
 clear k2 O1 B1
 unfold tval
 obtain ⟨⟨u0, t0, t1, t2, t3, t4, t5⟩, f0, f1, f2, f3, f4, f5⟩ := id O2
 simp only [Nat.zero_add] at t0 t1 t2 t3 t4 t5
 go_wp2_with fail
 exact bodyPost_ret (v := lfv 1 (decide (R ≤ 0)) 0 0 ⟨#[]⟩) zR20lt0t1t2t3t4t5 rfl ⟨rfl, zBL⟩

set_option maxHeartbeats 4000000 in
theorem rrel_gtn  (x y : VT) (w : World) (hk : kdV x = 2 ∧ kdV y = 2) (hx : x.okB 2 = true) (hy : y.okB 2 = true) (hin : x.In w) (hin' : y.In w) :
  Calls Tryz.prog 20 #[.string ⟨([62]).toArray⟩, x.val, y.val] w fun e w' => e = .returned (lfv 1 (decide (0 < x.cmp y)) 0 0 ⟨#[]⟩) ∧ Below w.heap.size w w' := by
 obtain ⟨k, b, m, s, t, a, len, cap, kid, rfl⟩ := hin.form
 obtain ⟨k', b', m', s', t', a', len', cap', kid', rfl⟩ := hin'.form
 have CM := hide (fun w h h' => rCmp_any (VT.mk k b m s t a len cap kid) (VT.mk k' b' m' s' t' a' len' cap' kid') 2 2 w hx hy h h')
 have BT := boxes2 w k b m s t a len cap k' b' m' s' t' a' len' cap'
 have J0 := hide (hin.below BT.2.2.2.1)
 have K0 := hide (hin'.below BT.2.2.2.1)
 clear hin hin' hx hy
 show Calls Tryz.prog 20 #[.string ⟨([62]).toArray⟩, .agg #[.int .i64 k, .bool b, .int .i64 m, .int .i64 s, .string t, .slice a len cap], .agg #[.int .i64 k', .bool b', .int .i64 m', .int .i64 s', .string t', .slice a' len' cap']] w _
 generalize (VT.mk k b m s t a len cap kid).cmp (VT.mk k' b' m' s' t' a' len' cap' kid') = R at *
 obtain ⟨hk1, hk2⟩ : k = 2 ∧ k' = 2 := hk
 subst hk1 hk2
 go_enter Tryz.func20, Tryz.ntmps20
 go_wp2_with fail
 generalize (((w.alloc (Obj.cells #[.int .i64 2, .bool b, .int .i64 m, .int .i64 s, .string t, .slice a len cap] 32)).alloc (Obj.cells #[.int .i64 2, .bool b', .int .i64 m', .int .i64 s', .string t', .slice a' len' cap'] 32)).alloc (Obj.cells #[.int .i64 0, .bool false, .int .i64 0, .int .i64 0, .string ⟨#[]⟩, .slice none 0 0] 32)) = V at *
 obtain ⟨X0, Y0, O0, B0, z0⟩ := BT
 clear z0
 obtain ⟨x0, x1, x2, x3, x4, x5, x6⟩ := id X0
 obtain ⟨y0, y1, y2, y3, y4, y5, y6⟩ := id Y0
 simp only [Nat.zero_add] at x1 x2 x3 x4 x5 x6 y1 y2 y3 y4 y5 y6
 go_wp2_with fail
 refine (unhide CM _ (unhide J0) (unhide K0)).mono ?_
 rintro e w1 ⟨rfl, k1⟩
 have X1 := VT.Six.below X0 k1
 have Y1 := VT.Six.below Y0 k1
 have O1 := Own.below O0 k1
 have B1 := bstep B0 k1
 clear k1 X0 Y0 O0 B0 J0 K0 CM x0 x1 x2 x3 x4 x5 x6 y0 y1 y2 y3 y4 y5 y6
 obtain ⟨x0, x1, x2, x3, x4, x5, x6⟩ := id X1
 obtain ⟨y0, y1, y2, y3, y4, y5, y6⟩ := id Y1
 simp only [Nat.zero_add] at x1 x2 x3 x4 x5 x6 y1 y2 y3 y4 y5 y6
 go_wp2_with fail
 refine (rof_any _ _).mono ?_
 rintro e w2 ⟨rfl, k2⟩
 have O2 := Own.below O1 k2
 have B2 := bstep B1 k2
 clear k2 O1 B1
 unfold tval
 obtain ⟨⟨u0, t0, t1, t2, t3, t4, t5⟩, f0, f1, f2, f3, f4, f5⟩ := id O2
 simp only [Nat.zero_add] at t0 t1 t2 t3 t4 t5
 go_wp2_with fail
 exact bodyPost_ret (v := lfv 1 (decide (0 < R)) 0 0 ⟨#[]⟩) zR20lt0t1t2t3t4t5 rfl ⟨rfl, zBL⟩

set_option maxHeartbeats 4000000 in
theorem rrel_gtt  (x y : VT) (w : World) (hk : kdV x = 3 ∧ kdV y = 3) (hx : x.okB 2 = true) (hy : y.okB 2 = true) (hin : x.In w) (hin' : y.In w) :
  Calls Tryz.prog 20 #[.string ⟨([62]).toArray⟩, x.val, y.val] w fun e w' => e = .returned (lfv 1 (decide (0 < x.cmp y)) 0 0 ⟨#[]⟩) ∧ Below w.heap.size w w' := by
 obtain ⟨k, b, m, s, t, a, len, cap, kid, rfl⟩ := hin.form
 obtain ⟨k', b', m', s', t', a', len', cap', kid', rfl⟩ := hin'.form
 have CM := hide (fun w h h' => rCmp_any (VT.mk k b m s t a len cap kid) (VT.mk k' b' m' s' t' a' len' cap' kid') 2 2 w hx hy h h')
 have BT := boxes2 w k b m s t a len cap k' b' m' s' t' a' len' cap'
 have J0 := hide (hin.below BT.2.2.2.1)
 have K0 := hide (hin'.below BT.2.2.2.1)
 clear hin hin' hx hy
 show Calls Tryz.prog 20 #[.string ⟨([62]).toArray⟩, .agg #[.int .i64 k, .bool b, .int .i64 m, .int .i64 s, .string t, .slice a len cap], .agg #[.int .i64 k', .bool b', .int .i64 m', .int .i64 s', .string t', .slice a' len' cap']] w _
 generalize (VT.mk k b m s t a len cap kid).cmp (VT.mk k' b' m' s' t' a' len' cap' kid') = R at *
 obtain ⟨hk1, hk2⟩ : k = 3 ∧ k' = 3 := hk
 subst hk1 hk2
 go_enter Tryz.func20, Tryz.ntmps20
 go_wp2_with fail
 generalize (((w.alloc (Obj.cells #[.int .i64 3, .bool b, .int .i64 m, .int .i64 s, .string t, .slice a len cap] 32)).alloc (Obj.cells #[.int .i64 3, .bool b', .int .i64 m', .int .i64 s', .string t', .slice a' len' cap'] 32)).alloc (Obj.cells #[.int .i64 0, .bool false, .int .i64 0, .int .i64 0, .string ⟨#[]⟩, .slice none 0 0] 32)) = V at *
 obtain ⟨X0, Y0, O0, B0, z0⟩ := BT
 clear z0
 obtain ⟨x0, x1, x2, x3, x4, x5, x6⟩ := id X0
 obtain ⟨y0, y1, y2, y3, y4, y5, y6⟩ := id Y0
 simp only [Nat.zero_add] at x1 x2 x3 x4 x5 x6 y1 y2 y3 y4 y5 y6
 go_wp2_with fail
 refine (unhide CM _ (unhide J0) (unhide K0)).mono ?_
 rintro e w1 ⟨rfl, k1⟩
 have X1 := VT.Six.below X0 k1
 have Y1 := VT.Six.below Y0 k1
 have O1 := Own.below O0 k1
 have B1 := bstep B0 k1
 clear k1 X0 Y0 O0 B0 J0 K0 CM x0 x1 x2 x3 x4 x5 x6 y0 y1 y2 y3 y4 y5 y6
 obtain ⟨x0, x1, x2, x3, x4, x5, x6⟩ := id X1
 obtain ⟨y0, y1, y2, y3, y4, y5, y6⟩ := id Y1
 simp only [Nat.zero_add] at x1 x2 x3 x4 x5 x6 y1 y2 y3 y4 y5 y6
 go_wp2_with fail
 refine (rof_any _ _).mono ?_
 rintro e w2 ⟨rfl, k2⟩
 have O2 := Own.below O1 k2
 have B2 := bstep B1 k2
 clear k2 O1 B1
 unfold tval
 obtain ⟨⟨u0, t0, t1, t2, t3, t4, t5⟩, f0, f1, f2, f3, f4, f5⟩ := id O2
 simp only [Nat.zero_add] at t0 t1 t2 t3 t4 t5
 go_wp2_with fail
 exact bodyPost_ret (v := lfv 1 (decide (0 < R)) 0 0 ⟨#[]⟩) zR20lt0t1t2t3t4t5 rfl ⟨rfl, zBL⟩

set_option maxHeartbeats 4000000 in
theorem rrel_gen  (x y : VT) (w : World) (hk : kdV x = 2 ∧ kdV y = 2) (hx : x.okB 2 = true) (hy : y.okB 2 = true) (hin : x.In w) (hin' : y.In w) :
  Calls Tryz.prog 20 #[.string ⟨([62, 61]).toArray⟩, x.val, y.val] w fun e w' => e = .returned (lfv 1 (decide (0 ≤ x.cmp y)) 0 0 ⟨#[]⟩) ∧ Below w.heap.size w w' := by
 obtain ⟨k, b, m, s, t, a, len, cap, kid, rfl⟩ := hin.form
 obtain ⟨k', b', m', s', t', a', len', cap', kid', rfl⟩ := hin'.form
 have CM := hide (fun w h h' => rCmp_any (VT.mk k b m s t a len cap kid) (VT.mk k' b' m' s' t' a' len' cap' kid') 2 2 w hx hy h h')
 have BT := boxes2 w k b m s t a len cap k' b' m' s' t' a' len' cap'
 have J0 := hide (hin.below BT.2.2.2.1)
 have K0 := hide (hin'.below BT.2.2.2.1)
 clear hin hin' hx hy
 show Calls Tryz.prog 20 #[.string ⟨([62, 61]).toArray⟩, .agg #[.int .i64 k, .bool b, .int .i64 m, .int .i64 s, .string t, .slice a len cap], .agg #[.int .i64 k', .bool b', .int .i64 m', .int .i64 s', .string t', .slice a' len' cap']] w _
 generalize (VT.mk k b m s t a len cap kid).cmp (VT.mk k' b' m' s' t' a' len' cap' kid') = R at *
 obtain ⟨hk1, hk2⟩ : k = 2 ∧ k' = 2 := hk
 subst hk1 hk2
 go_enter Tryz.func20, Tryz.ntmps20
 go_wp2_with fail
 generalize (((w.alloc (Obj.cells #[.int .i64 2, .bool b, .int .i64 m, .int .i64 s, .string t, .slice a len cap] 32)).alloc (Obj.cells #[.int .i64 2, .bool b', .int .i64 m', .int .i64 s', .string t', .slice a' len' cap'] 32)).alloc (Obj.cells #[.int .i64 0, .bool false, .int .i64 0, .int .i64 0, .string ⟨#[]⟩, .slice none 0 0] 32)) = V at *
 obtain ⟨X0, Y0, O0, B0, z0⟩ := BT
 clear z0
 obtain ⟨x0, x1, x2, x3, x4, x5, x6⟩ := id X0
 obtain ⟨y0, y1, y2, y3, y4, y5, y6⟩ := id Y0
 simp only [Nat.zero_add] at x1 x2 x3 x4 x5 x6 y1 y2 y3 y4 y5 y6
 go_wp2_with fail
 refine (unhide CM _ (unhide J0) (unhide K0)).mono ?_
 rintro e w1 ⟨rfl, k1⟩
 have X1 := VT.Six.below X0 k1
 have Y1 := VT.Six.below Y0 k1
 have O1 := Own.below O0 k1
 have B1 := bstep B0 k1
 clear k1 X0 Y0 O0 B0 J0 K0 CM x0 x1 x2 x3 x4 x5 x6 y0 y1 y2 y3 y4 y5 y6
 obtain ⟨x0, x1, x2, x3, x4, x5, x6⟩ := id X1
 obtain ⟨y0, y1, y2, y3, y4, y5, y6⟩ := id Y1
 simp only [Nat.zero_add] at x1 x2 x3 x4 x5 x6 y1 y2 y3 y4 y5 y6
 go_wp2_with fail
 refine (rof_any _ _).mono ?_
 rintro e w2 ⟨rfl, k2⟩
 have O2 := Own.below O1 k2
 have B2 := bstep B1 k2
 clear k2 O1 B1
 unfold tval
 obtain ⟨⟨u0, t0, t1, t2, t3, t4, t5⟩, f0, f1, f2, f3, f4, f5⟩ := id O2
 simp only [Nat.zero_add] at t0 t1 t2 t3 t4 t5
 go_wp2_with fail
 exact bodyPost_ret (v := lfv 1 (decide (0 ≤ R)) 0 0 ⟨#[]⟩) zR20lt0t1t2t3t4t5 rfl ⟨rfl, zBL⟩

set_option maxHeartbeats 4000000 in
theorem rrel_get  (x y : VT) (w : World) (hk : kdV x = 3 ∧ kdV y = 3) (hx : x.okB 2 = true) (hy : y.okB 2 = true) (hin : x.In w) (hin' : y.In w) :
  Calls Tryz.prog 20 #[.string ⟨([62, 61]).toArray⟩, x.val, y.val] w fun e w' => e = .returned (lfv 1 (decide (0 ≤ x.cmp y)) 0 0 ⟨#[]⟩) ∧ Below w.heap.size w w' := by
 obtain ⟨k, b, m, s, t, a, len, cap, kid, rfl⟩ := hin.form
 obtain ⟨k', b', m', s', t', a', len', cap', kid', rfl⟩ := hin'.form
 have CM := hide (fun w h h' => rCmp_any (VT.mk k b m s t a len cap kid) (VT.mk k' b' m' s' t' a' len' cap' kid') 2 2 w hx hy h h')
 have BT := boxes2 w k b m s t a len cap k' b' m' s' t' a' len' cap'
 have J0 := hide (hin.below BT.2.2.2.1)
 have K0 := hide (hin'.below BT.2.2.2.1)
 clear hin hin' hx hy
 show Calls Tryz.prog 20 #[.string ⟨([62, 61]).toArray⟩, .agg #[.int .i64 k, .bool b, .int .i64 m, .int .i64 s, .string t, .slice a len cap], .agg #[.int .i64 k', .bool b', .int .i64 m', .int .i64 s', .string t', .slice a' len' cap']] w _
 generalize (VT.mk k b m s t a len cap kid).cmp (VT.mk k' b' m' s' t' a' len' cap' kid') = R at *
 obtain ⟨hk1, hk2⟩ : k = 3 ∧ k' = 3 := hk
 subst hk1 hk2
 go_enter Tryz.func20, Tryz.ntmps20
 go_wp2_with fail
 generalize (((w.alloc (Obj.cells #[.int .i64 3, .bool b, .int .i64 m, .int .i64 s, .string t, .slice a len cap] 32)).alloc (Obj.cells #[.int .i64 3, .bool b', .int .i64 m', .int .i64 s', .string t', .slice a' len' cap'] 32)).alloc (Obj.cells #[.int .i64 0, .bool false, .int .i64 0, .int .i64 0, .string ⟨#[]⟩, .slice none 0 0] 32)) = V at *
 obtain ⟨X0, Y0, O0, B0, z0⟩ := BT
 clear z0
 obtain ⟨x0, x1, x2, x3, x4, x5, x6⟩ := id X0
 obtain ⟨y0, y1, y2, y3, y4, y5, y6⟩ := id Y0
 simp only [Nat.zero_add] at x1 x2 x3 x4 x5 x6 y1 y2 y3 y4 y5 y6
 go_wp2_with fail
 refine (unhide CM _ (unhide J0) (unhide K0)).mono ?_
 rintro e w1 ⟨rfl, k1⟩
 have X1 := VT.Six.below X0 k1
 have Y1 := VT.Six.below Y0 k1
 have O1 := Own.below O0 k1
 have B1 := bstep B0 k1
 clear k1 X0 Y0 O0 B0 J0 K0 CM x0 x1 x2 x3 x4 x5 x6 y0 y1 y2 y3 y4 y5 y6
 obtain ⟨x0, x1, x2, x3, x4, x5, x6⟩ := id X1
 obtain ⟨y0, y1, y2, y3, y4, y5, y6⟩ := id Y1
 simp only [Nat.zero_add] at x1 x2 x3 x4 x5 x6 y1 y2 y3 y4 y5 y6
 go_wp2_with fail
 refine (rof_any _ _).mono ?_
 rintro e w2 ⟨rfl, k2⟩
 have O2 := Own.below O1 k2
 have B2 := bstep B1 k2
 clear k2 O1 B1
 unfold tval
 obtain ⟨⟨u0, t0, t1, t2, t3, t4, t5⟩, f0, f1, f2, f3, f4, f5⟩ := id O2
 simp only [Nat.zero_add] at t0 t1 t2 t3 t4 t5
 go_wp2_with fail
 exact bodyPost_ret (v := lfv 1 (decide (0 ≤ R)) 0 0 ⟨#[]⟩) zR20lt0t1t2t3t4t5 rfl ⟨rfl, zBL⟩

set_option maxHeartbeats 4000000 in
theorem rrel_non (l : List UInt8) (q1 : (l == [61]) = false) (q2 : (l == [33, 61]) = false) (q3 : (l == [60]) = false) (q4 : (l == [60, 61]) = false) (q5 : (l == [62]) = false) (q6 : (l == [62, 61]) = false) (x y : VT) (w : World) (hk : kdV x = 2 ∧ kdV y = 2) (hx : x.okB 2 = true) (hy : y.okB 2 = true) (hin : x.In w) (hin' : y.In w) :
  Calls Tryz.prog 20 #[.string ⟨(l).toArray⟩, x.val, y.val] w fun e w' => e = .returned (lfv 0 false 0 0 ⟨#[]⟩) ∧ Below w.heap.size w w' := by
 obtain ⟨k, b, m, s, t, a, len, cap, kid, rfl⟩ := hin.form
 obtain ⟨k', b', m', s', t', a', len', cap', kid', rfl⟩ := hin'.form
 have CM := hide (fun w h h' => rCmp_any (VT.mk k b m s t a len cap kid) (VT.mk k' b' m' s' t' a' len' cap' kid') 2 2 w hx hy h h')
 have BT := boxes2 w k b m s t a len cap k' b' m' s' t' a' len' cap'
 have J0 := hide (hin.below BT.2.2.2.1)
 have K0 := hide (hin'.below BT.2.2.2.1)
 clear hin hin' hx hy
 show Calls Tryz.prog 20 #[.string ⟨(l).toArray⟩, .agg #[.int .i64 k, .bool b, .int .i64 m, .int .i64 s, .string t, .slice a len cap], .agg #[.int .i64 k', .bool b', .int .i64 m', .int .i64 s', .string t', .slice a' len' cap']] w _
 generalize (VT.mk k b m s t a len cap kid).cmp (VT.mk k' b' m' s' t' a' len' cap' kid') = R at *
 obtain ⟨hk1, hk2⟩ : k = 2 ∧ k' = 2 := hk
 subst hk1 hk2
 go_enter Tryz.func20, Tryz.ntmps20
 go_wp2_with fail
 generalize (((w.alloc (Obj.cells #[.int .i64 2, .bool b, .int .i64 m, .int .i64 s, .string t, .slice a len cap] 32)).alloc (Obj.cells #[.int .i64 2, .bool b', .int .i64 m', .int .i64 s', .string t', .slice a' len' cap'] 32)).alloc (Obj.cells #[.int .i64 0, .bool false, .int .i64 0, .int .i64 0, .string ⟨#[]⟩, .slice none 0 0] 32)) = V at *
 obtain ⟨X0, Y0, O0, B0, z0⟩ := BT
 clear z0
 obtain ⟨x0, x1, x2, x3, x4, x5, x6⟩ := id X0
 obtain ⟨y0, y1, y2, y3, y4, y5, y6⟩ := id Y0
 simp only [Nat.zero_add] at x1 x2 x3 x4 x5 x6 y1 y2 y3 y4 y5 y6
 go_wp2_with fail
 refine (unhide CM _ (unhide J0) (unhide K0)).mono ?_
 rintro e w1 ⟨rfl, k1⟩
 have X1 := VT.Six.below X0 k1
 have Y1 := VT.Six.below Y0 k1
 have O1 := Own.below O0 k1
 have B1 := bstep B0 k1
 clear k1 X0 Y0 O0 B0 J0 K0 CM x0 x1 x2 x3 x4 x5 x6 y0 y1 y2 y3 y4 y5 y6
 obtain ⟨x0, x1, x2, x3, x4, x5, x6⟩ := id X1
 obtain ⟨y0, y1, y2, y3, y4, y5, y6⟩ := id Y1
 simp only [Nat.zero_add] at x1 x2 x3 x4 x5 x6 y1 y2 y3 y4 y5 y6
 obtain ⟨⟨u0, t0, t1, t2, t3, t4, t5⟩, f0, f1, f2, f3, f4, f5⟩ := id O1
 simp only [Nat.zero_add] at t0 t1 t2 t3 t4 t5
 go_wp2_with fail
 exact bodyPost_ret (v := lfv 0 false 0 0 ⟨#[]⟩) zR20lt0t1t2t3t4t5 rfl ⟨rfl, zBL⟩

set_option maxHeartbeats 4000000 in
theorem rrel_not (l : List UInt8) (q1 : (l == [61]) = false) (q2 : (l == [33, 61]) = false) (q3 : (l == [60]) = false) (q4 : (l == [60, 61]) = false) (q5 : (l == [62]) = false) (q6 : (l == [62, 61]) = false) (x y : VT) (w : World) (hk : kdV x = 3 ∧ kdV y = 3) (hx : x.okB 2 = true) (hy : y.okB 2 = true) (hin : x.In w) (hin' : y.In w) :
  Calls Tryz.prog 20 #[.string ⟨(l).toArray⟩, x.val, y.val] w fun e w' => e = .returned (lfv 0 false 0 0 ⟨#[]⟩) ∧ Below w.heap.size w w' := by
 obtain ⟨k, b, m, s, t, a, len, cap, kid, rfl⟩ := hin.form
 obtain ⟨k', b', m', s', t', a', len', cap', kid', rfl⟩ := hin'.form
 have CM := hide (fun w h h' => rCmp_any (VT.mk k b m s t a len cap kid) (VT.mk k' b' m' s' t' a' len' cap' kid') 2 2 w hx hy h h')
 have BT := boxes2 w k b m s t a len cap k' b' m' s' t' a' len' cap'
 have J0 := hide (hin.below BT.2.2.2.1)
 have K0 := hide (hin'.below BT.2.2.2.1)
 clear hin hin' hx hy
 show Calls Tryz.prog 20 #[.string ⟨(l).toArray⟩, .agg #[.int .i64 k, .bool b, .int .i64 m, .int .i64 s, .string t, .slice a len cap], .agg #[.int .i64 k', .bool b', .int .i64 m', .int .i64 s', .string t', .slice a' len' cap']] w _
 generalize (VT.mk k b m s t a len cap kid).cmp (VT.mk k' b' m' s' t' a' len' cap' kid') = R at *
 obtain ⟨hk1, hk2⟩ : k = 3 ∧ k' = 3 := hk
 subst hk1 hk2
 go_enter Tryz.func20, Tryz.ntmps20
 go_wp2_with fail
 generalize (((w.alloc (Obj.cells #[.int .i64 3, .bool b, .int .i64 m, .int .i64 s, .string t, .slice a len cap] 32)).alloc (Obj.cells #[.int .i64 3, .bool b', .int .i64 m', .int .i64 s', .string t', .slice a' len' cap'] 32)).alloc (Obj.cells #[.int .i64 0, .bool false, .int .i64 0, .int .i64 0, .string ⟨#[]⟩, .slice none 0 0] 32)) = V at *
 obtain ⟨X0, Y0, O0, B0, z0⟩ := BT
 clear z0
 obtain ⟨x0, x1, x2, x3, x4, x5, x6⟩ := id X0
 obtain ⟨y0, y1, y2, y3, y4, y5, y6⟩ := id Y0
 simp only [Nat.zero_add] at x1 x2 x3 x4 x5 x6 y1 y2 y3 y4 y5 y6
 go_wp2_with fail
 refine (unhide CM _ (unhide J0) (unhide K0)).mono ?_
 rintro e w1 ⟨rfl, k1⟩
 have X1 := VT.Six.below X0 k1
 have Y1 := VT.Six.below Y0 k1
 have O1 := Own.below O0 k1
 have B1 := bstep B0 k1
 clear k1 X0 Y0 O0 B0 J0 K0 CM x0 x1 x2 x3 x4 x5 x6 y0 y1 y2 y3 y4 y5 y6
 obtain ⟨x0, x1, x2, x3, x4, x5, x6⟩ := id X1
 obtain ⟨y0, y1, y2, y3, y4, y5, y6⟩ := id Y1
 simp only [Nat.zero_add] at x1 x2 x3 x4 x5 x6 y1 y2 y3 y4 y5 y6
 obtain ⟨⟨u0, t0, t1, t2, t3, t4, t5⟩, f0, f1, f2, f3, f4, f5⟩ := id O1
 simp only [Nat.zero_add] at t0 t1 t2 t3 t4 t5
 go_wp2_with fail
 exact bodyPost_ret (v := lfv 0 false 0 0 ⟨#[]⟩) zR20lt0t1t2t3t4t5 rfl ⟨rfl, zBL⟩

set_option maxHeartbeats 4000000 in
theorem rrel_un (l : List UInt8) (q1 : (l == [61]) = false) (q2 : (l == [33, 61]) = false) (x y : VT) (w : World) (hk : ¬ ((kdV x = 2 ∧ kdV y = 2) ∨ (kdV x = 3 ∧ kdV y = 3))) (hx : x.okB 2 = true) (hy : y.okB 2 = true) (hin : x.In w) (hin' : y.In w) :
  Calls Tryz.prog 20 #[.string ⟨(l).toArray⟩, x.val, y.val] w fun e w' => e = .returned (lfv 0 false 0 0 ⟨#[]⟩) ∧ Below w.heap.size w w' := by
 obtain ⟨k, b, m, s, t, a, len, cap, kid, rfl⟩ := hin.form
 obtain ⟨k', b', m', s', t', a', len', cap', kid', rfl⟩ := hin'.form
 have CM := hide (fun w h h' => rCmp_any (VT.mk k b m s t a len cap kid) (VT.mk k' b' m' s' t' a' len' cap' kid') 2 2 w hx hy h h')
 have BT := boxes2 w k b m s t a len cap k' b' m' s' t' a' len' cap'
 have J0 := hide (hin.below BT.2.2.2.1)
 have K0 := hide (hin'.below BT.2.2.2.1)
 clear hin hin' hx hy
 show Calls Tryz.prog 20 #[.string ⟨(l).toArray⟩, .agg #[.int .i64 k, .bool b, .int .i64 m, .int .i64 s, .string t, .slice a len cap], .agg #[.int .i64 k', .bool b', .int .i64 m', .int .i64 s', .string t', .slice a' len' cap']] w _
 generalize (VT.mk k b m s t a len cap kid).cmp (VT.mk k' b' m' s' t' a' len' cap' kid') = R at *
 have hk : ¬ ((k = 2 ∧ k' = 2) ∨ (k = 3 ∧ k' = 3)) := hk
 have e1 : (k != k' || k != 2 && k != 3) = true := by
  by_cases h : k = k'
  ·subst h; simp; omega
  ·simp [h]
 clear hk
 by_cases h : k = k'
 ·subst h
  have e2 : (k != 2) = true := by simp at e1 ⊢; omega
  have e3 : (k != 3) = true := by simp at e1 ⊢; omega
  clear e1
  go_enter Tryz.func20, Tryz.ntmps20
  go_wp2_with fail
  generalize (((w.alloc (Obj.cells #[.int .i64 k, .bool b, .int .i64 m, .int .i64 s, .string t, .slice a len cap] 32)).alloc (Obj.cells #[.int .i64 k, .bool b', .int .i64 m', .int .i64 s', .string t', .slice a' len' cap'] 32)).alloc (Obj.cells #[.int .i64 0, .bool false, .int .i64 0, .int .i64 0, .string ⟨#[]⟩, .slice none 0 0] 32)) = V at *
  obtain ⟨X0, Y0, O0, B0, z0⟩ := BT
  clear z0
  obtain ⟨x0, x1, x2, x3, x4, x5, x6⟩ := id X0
  obtain ⟨y0, y1, y2, y3, y4, y5, y6⟩ := id Y0
  simp only [Nat.zero_add] at x1 x2 x3 x4 x5 x6 y1 y2 y3 y4 y5 y6
  go_wp2_with fail
  refine (unhide CM _ (unhide J0) (unhide K0)).mono ?_
  rintro e w1 ⟨rfl, k1⟩
  have X1 := VT.Six.below X0 k1
  have Y1 := VT.Six.below Y0 k1
  have O1 := Own.below O0 k1
  have B1 := bstep B0 k1
  clear k1 X0 Y0 O0 B0 J0 K0 CM x0 x1 x2 x3 x4 x5 x6 y0 y1 y2 y3 y4 y5 y6
  obtain ⟨x0, x1, x2, x3, x4, x5, x6⟩ := id X1
  obtain ⟨y0, y1, y2, y3, y4, y5, y6⟩ := id Y1
  simp only [Nat.zero_add] at x1 x2 x3 x4 x5 x6 y1 y2 y3 y4 y5 y6
  obtain ⟨⟨u0, t0, t1, t2, t3, t4, t5⟩, f0, f1, f2, f3, f4, f5⟩ := id O1
  simp only [Nat.zero_add] at t0 t1 t2 t3 t4 t5
  go_wp2_with fail
  exact bodyPost_ret (v := lfv 0 false 0 0 ⟨#[]⟩) zR20lt0t1t2t3t4t5 rfl ⟨rfl, zBL⟩
 ·have e2 : (k != k') = true := by simp [h]
  clear e1 h
  go_enter Tryz.func20, Tryz.ntmps20
  go_wp2_with fail
  generalize (((w.alloc (Obj.cells #[.int .i64 k, .bool b, .int .i64 m, .int .i64 s, .string t, .slice a len cap] 32)).alloc (Obj.cells #[.int .i64 k', .bool b', .int .i64 m', .int .i64 s', .string t', .slice a' len' cap'] 32)).alloc (Obj.cells #[.int .i64 0, .bool false, .int .i64 0, .int .i64 0, .string ⟨#[]⟩, .slice none 0 0] 32)) = V at *
  obtain ⟨X0, Y0, O0, B0, z0⟩ := BT
  clear z0
  obtain ⟨x0, x1, x2, x3, x4, x5, x6⟩ := id X0
  obtain ⟨y0, y1, y2, y3, y4, y5, y6⟩ := id Y0
  simp only [Nat.zero_add] at x1 x2 x3 x4 x5 x6 y1 y2 y3 y4 y5 y6
  go_wp2_with fail
  refine (unhide CM _ (unhide J0) (unhide K0)).mono ?_
  rintro e w1 ⟨rfl, k1⟩
  have X1 := VT.Six.below X0 k1
  have Y1 := VT.Six.below Y0 k1
  have O1 := Own.below O0 k1
  have B1 := bstep B0 k1
  clear k1 X0 Y0 O0 B0 J0 K0 CM x0 x1 x2 x3 x4 x5 x6 y0 y1 y2 y3 y4 y5 y6
  obtain ⟨x0, x1, x2, x3, x4, x5, x6⟩ := id X1
  obtain ⟨y0, y1, y2, y3, y4, y5, y6⟩ := id Y1
  simp only [Nat.zero_add] at x1 x2 x3 x4 x5 x6 y1 y2 y3 y4 y5 y6
  obtain ⟨⟨u0, t0, t1, t2, t3, t4, t5⟩, f0, f1, f2, f3, f4, f5⟩ := id O1
  simp only [Nat.zero_add] at t0 t1 t2 t3 t4 t5
  go_wp2_with fail
  exact bodyPost_ret (v := lfv 0 false 0 0 ⟨#[]⟩) zR20lt0t1t2t3t4t5 rfl ⟨rfl, zBL⟩

theorem rrel_any (l : List UInt8) (x y : VT) (w : World) (hx : x.okB 2 = true) (hy : y.okB 2 = true) (hin : x.In w) (hin' : y.In w) :
  Calls Tryz.prog 20 #[.string ⟨l.toArray⟩, x.val, y.val] w fun e w' => e = .returned (relT l x y).val ∧ Below w.heap.size w w' := by
 unfold relT
 by_cases h1 : l = [61]
 ·subst h1; rw [if_pos rfl]; exact rrel_eq x y w hx hy hin hin'
 rw [if_neg h1]
 by_cases h2 : l = [33, 61]
 ·subst h2; rw [if_pos rfl]; exact rrel_ne x y w hx hy hin hin'
 rw [if_neg h2]
 by_cases hk : (kdV x = 2 ∧ kdV y = 2) ∨ (kdV x = 3 ∧ kdV y = 3)
 ·rw [if_pos hk]
  by_cases h3 : l = [60]
  ·subst h3; rw [if_pos rfl]; rcases hk with hk | hk; exact rrel_ltn x y w hk hx hy hin hin'; exact rrel_ltt x y w hk hx hy hin hin'
  rw [if_neg h3]
  by_cases h4 : l = [60, 61]
  ·subst h4; rw [if_pos rfl]; rcases hk with hk | hk; exact rrel_len x y w hk hx hy hin hin'; exact rrel_let x y w hk hx hy hin hin'
  rw [if_neg h4]
  by_cases h5 : l = [62]
  ·subst h5; rw [if_pos rfl]; rcases hk with hk | hk; exact rrel_gtn x y w hk hx hy hin hin'; exact rrel_gtt x y w hk hx hy hin hin'
  rw [if_neg h5]
  by_cases h6 : l = [62, 61]
  ·subst h6; rw [if_pos rfl]; rcases hk with hk | hk; exact rrel_gen x y w hk hx hy hin hin'; exact rrel_get x y w hk hx hy hin hin'
  rw [if_neg h6]
  have q1 : (l == [61]) = false := by simpa using h1
  have q2 : (l == [33, 61]) = false := by simpa using h2
  have q3 : (l == [60]) = false := by simpa using h3
  have q4 : (l == [60, 61]) = false := by simpa using h4
  have q5 : (l == [62]) = false := by simpa using h5
  have q6 : (l == [62, 61]) = false := by simpa using h6
  rcases hk with hk | hk
  ·exact rrel_non l q1 q2 q3 q4 q5 q6 x y w hk hx hy hin hin'
  ·exact rrel_not l q1 q2 q3 q4 q5 q6 x y w hk hx hy hin hin'
 ·rw [if_neg hk]
  exact rrel_un l (by simpa using h1) (by simpa using h2) x y w hk hx hy hin hin'
end Go.Proofs.YtfdimdjmnfdecaaGreat

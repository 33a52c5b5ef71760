/- EReck: laid together. -/
import Derived.Test.YtfdimdjmnfdecaaGreatKAH
import Derived.Test.YtfdimdjmnfdecaaGreatKAI
import Derived.Test.YtfdimdjmnfdecaaGreatKAJ
set_option linter.unusedVariables false
set_option linter.unusedSimpArgs false
set_option maxHeartbeats 8000000
namespace Go.Proofs.YtfdimdjmnfdecaaGreat
open Go.RowKit
open VT (leaf mkV)
theorem lf_rec (m s e : Int) : LF (recT m s e).1 := by unfold recT; split; exact lf_num _ _; exact lf_nil
theorem lf_cat (l : List VT) : LF (catT l).1 := by
 unfold catT
 repeat (first | exact lf_nil | exact lf_tex _ | split)
theorem tup_lf {X : VT × Int} (h : LF X.1) : ∃ K BB M SS TT, Tup X = .tuple #[lfv K BB M SS TT, .int .i64 X.2] := by
 obtain ⟨K, BB, M, SS, TT, e⟩ := h.val
 exact ⟨K, BB, M, SS, TT, by unfold Tup; rw [e]⟩
theorem two_row {w : World} {g : Nat} {x y : VT} (hx : x.In w) (hy : y.In w) (h0 : ∀ j, j < 6 → w.cell? ⟨g, 0 + j, none⟩ = x.cells[j]?) (h1 : ∀ j, j < 6 → w.cell? ⟨g, 6 + j, none⟩ = y.cells[j]?) : (rowT (some ⟨g, 0, none⟩) 2 [x, y]).In w := by
 refine ⟨⟨rfl, rfl, rfl, Nat.zero_le _, Nat.le_refl _, by unfold maxLen; omega⟩, fun i hi => ?_⟩
 match i, hi with
 | 0, _ => exact ⟨⟨g, 0, rfl, fun j hj => by simpa using h0 j hj⟩, hx⟩
 | 1, _ => exact ⟨⟨g, 0, rfl, fun j hj => by simpa using h1 j hj⟩, hy⟩
theorem reck_add (x y : VT) (w : World) (hk : kdV x = 2 ∧ kdV y = 2) (hx : x.okB 2 = true) (hy : y.okB 2 = true) (hin : x.In w) (hin' : y.In w) :
  Calls Tryz.prog 83 #[.string ⟨([43]).toArray⟩, x.val, y.val] w fun e w' => e = .returned (Tup (addR (mOf x) (sOf x) (mOf y) (sOf y))) ∧ Below w.heap.size w w' := by
 obtain ⟨k, b, m, s, t, a, len, cap, kid, rfl⟩ := hin.form
 obtain ⟨k', b', m', s', t', a', len', cap', kid', rfl⟩ := hin'.form
 have BT := boxes2 w k b m s t a len cap k' b' m' s' t' a' len' cap'
 have J0 := hide (hin.below BT.2.2.2.1)
 have K0 := hide (hin'.below BT.2.2.2.1)
 have HK : Hid (k = 2 ∧ k' = 2) := hk
 have I1 := hide (show isB m s = true by obtain ⟨h1, h2⟩ := unhide HK; subst h1; exact okB_num hx)
 have I2 := hide (show isB m' s' = true by obtain ⟨h1, h2⟩ := unhide HK; subst h2; exact okB_num hy)
 have AR := hide (fun w => add_any m s m' s' w (unhide I1) (unhide I2))
 have ER : Hid (addR (mOf (VT.mk k b m s t a len cap kid)) (sOf (VT.mk k b m s t a len cap kid)) (mOf (VT.mk k' b' m' s' t' a' len' cap' kid')) (sOf (VT.mk k' b' m' s' t' a' len' cap' kid')) = recT (fitM (upM m s (max s s') + upM m' s' (max s s')) (max s s')) (fitS (upM m s (max s s') + upM m' s' (max s s')) (max s s')) (fitE (upM m s (max s s') + upM m' s' (max s s')) (max s s'))) := hide rfl
 rw [unhide ER]
 generalize fitM (upM m s (max s s') + upM m' s' (max s s')) (max s s') = M at *
 generalize fitS (upM m s (max s s') + upM m' s' (max s s')) (max s s') = S at *
 generalize fitE (upM m s (max s s') + upM m' s' (max s s')) (max s s') = E at *
 clear ER hk
 obtain ⟨K, BB, M', SS, TT, eV⟩ := tup_lf (lf_rec M S E)
 have EV := hide eV
 rw [eV]
 generalize hE2 : (recT M S E).2 = E2 at *
 clear hE2 eV
 clear hin hin' hx hy
 show Calls Tryz.prog 83 #[.string ⟨([43]).toArray⟩, .agg #[.int .i64 k, .bool b, .int .i64 m, .int .i64 s, .string t, .slice a len cap], .agg #[.int .i64 k', .bool b', .int .i64 m', .int .i64 s', .string t', .slice a' len' cap']] w _
 go_enter Tryz.func83, Tryz.ntmps83
 go_wp2_with fail
 generalize (((w.alloc (Obj.cells #[.int .i64 k, .bool b, .int .i64 m, .int .i64 s, .string t, .slice a len cap] 32)).alloc (Obj.cells #[.int .i64 k', .bool b', .int .i64 m', .int .i64 s', .string t', .slice a' len' cap'] 32)).alloc (Obj.cells #[.int .i64 0, .bool false, .int .i64 0, .int .i64 0, .string ⟨#[]⟩, .slice none 0 0] 32)) = V at *
 obtain ⟨X0, Y0, O0, B0, z0⟩ := BT
 clear z0
 obtain ⟨x0, x1, x2, x3, x4, x5, x6⟩ := sixfl X0
 obtain ⟨y0, y1, y2, y3, y4, y5, y6⟩ := sixfl Y0
 refine (both_any _ _ _ _ _ _ _ _ _ _ _ _ _ _ _ _ _ _).mono ?_
 rintro e w1 ⟨rfl, k1⟩
 have X1 := VT.Six.below X0 k1
 have Y1 := VT.Six.below Y0 k1
 have O1 := Own.below O0 k1
 have B1 := bstep B0 k1
 have J1 := hide ((unhide J0).below k1)
 have K1 := hide ((unhide K0).below k1)
 clear k1 X0 Y0 O0 J0 K0 B0 x0 x1 x2 x3 x4 x5 x6 y0 y1 y2 y3 y4 y5 y6
 obtain ⟨x0, x1, x2, x3, x4, x5, x6⟩ := sixfl X1
 obtain ⟨y0, y1, y2, y3, y4, y5, y6⟩ := sixfl Y1
 rw [decide_eq_false (show ¬ (k = 3 ∧ k' = 3) from fun h => by have := unhide HK; omega)]
 go_wp2_with fail
 refine (both_any _ _ _ _ _ _ _ _ _ _ _ _ _ _ _ _ _ _).mono ?_
 rintro e w2 ⟨rfl, k2⟩
 have X2 := VT.Six.below X1 k2
 have Y2 := VT.Six.below Y1 k2
 have O2 := Own.below O1 k2
 have B2 := bstep B1 k2
 have J2 := hide ((unhide J1).below k2)
 have K2 := hide ((unhide K1).below k2)
 clear k2 X1 Y1 O1 J1 K1 B1 x0 x1 x2 x3 x4 x5 x6 y0 y1 y2 y3 y4 y5 y6
 obtain ⟨x0, x1, x2, x3, x4, x5, x6⟩ := sixfl X2
 obtain ⟨y0, y1, y2, y3, y4, y5, y6⟩ := sixfl Y2
 rw [decide_eq_true (show k = 2 ∧ k' = 2 from unhide HK)]
 go_wp2_with fail
 refine (unhide AR _).mono ?_
 rintro e w3 ⟨rfl, k3⟩
 have X3 := VT.Six.below X2 k3
 have Y3 := VT.Six.below Y2 k3
 have O3 := Own.below O2 k3
 have B3 := bstep B2 k3
 have J3 := hide ((unhide J2).below k3)
 have K3 := hide ((unhide K2).below k3)
 clear k3 X2 Y2 O2 J2 K2 B2 x0 x1 x2 x3 x4 x5 x6 y0 y1 y2 y3 y4 y5 y6
 obtain ⟨x0, x1, x2, x3, x4, x5, x6⟩ := sixfl X3
 obtain ⟨y0, y1, y2, y3, y4, y5, y6⟩ := sixfl Y3
 go_wp2_with fail
 refine (reckoned_any _ _ _ _).mono ?_
 rintro e w4 ⟨rfl, k4⟩
 have X4 := VT.Six.below X3 k4
 have Y4 := VT.Six.below Y3 k4
 have O4 := Own.below O3 k4
 have B4 := bstep B3 k4
 have J4 := hide ((unhide J3).below k4)
 have K4 := hide ((unhide K3).below k4)
 clear k4 X3 Y3 O3 J3 K3 B3 x0 x1 x2 x3 x4 x5 x6 y0 y1 y2 y3 y4 y5 y6
 obtain ⟨x0, x1, x2, x3, x4, x5, x6⟩ := sixfl X4
 obtain ⟨y0, y1, y2, y3, y4, y5, y6⟩ := sixfl Y4
 rw [unhide EV]
 obtain ⟨u0, t0, t1, t2, t3, t4, t5, f0, f1, f2, f3, f4, f5⟩ := Own.fl O4
 try unfold lfv
 go_wp2_with fail
 exact bodyPost_ret (v := .tuple #[lfv K BB M' SS TT, .int .i64 E2]) zR83lt0t1t2t3t4t5 rfl ⟨rfl, zBL⟩
theorem reck_noadd (x y : VT) (w : World) (hk : ¬ (kdV x = 2 ∧ kdV y = 2)) (hk3 : ¬ (kdV x = 3 ∧ kdV y = 3)) (hx : x.okB 2 = true) (hy : y.okB 2 = true) (hin : x.In w) (hin' : y.In w) :
  Calls Tryz.prog 83 #[.string ⟨([43]).toArray⟩, x.val, y.val] w fun e w' => e = .returned (.tuple #[lfv 0 false 0 0 ⟨#[]⟩, .int .i64 0]) ∧ Below w.heap.size w w' := by
 obtain ⟨k, b, m, s, t, a, len, cap, kid, rfl⟩ := hin.form
 obtain ⟨k', b', m', s', t', a', len', cap', kid', rfl⟩ := hin'.form
 have BT := boxes2 w k b m s t a len cap k' b' m' s' t' a' len' cap'
 have J0 := hide (hin.below BT.2.2.2.1)
 have K0 := hide (hin'.below BT.2.2.2.1)
 have HK : Hid (¬ (k = 2 ∧ k' = 2)) := hk
 have HK3 : Hid (¬ (k = 3 ∧ k' = 3)) := hk3
 clear hk hk3
 clear hin hin' hx hy
 show Calls Tryz.prog 83 #[.string ⟨([43]).toArray⟩, .agg #[.int .i64 k, .bool b, .int .i64 m, .int .i64 s, .string t, .slice a len cap], .agg #[.int .i64 k', .bool b', .int .i64 m', .int .i64 s', .string t', .slice a' len' cap']] w _
 go_enter Tryz.func83, Tryz.ntmps83
 go_wp2_with fail
 generalize (((w.alloc (Obj.cells #[.int .i64 k, .bool b, .int .i64 m, .int .i64 s, .string t, .slice a len cap] 32)).alloc (Obj.cells #[.int .i64 k', .bool b', .int .i64 m', .int .i64 s', .string t', .slice a' len' cap'] 32)).alloc (Obj.cells #[.int .i64 0, .bool false, .int .i64 0, .int .i64 0, .string ⟨#[]⟩, .slice none 0 0] 32)) = V at *
 obtain ⟨X0, Y0, O0, B0, z0⟩ := BT
 clear z0
 obtain ⟨x0, x1, x2, x3, x4, x5, x6⟩ := sixfl X0
 obtain ⟨y0, y1, y2, y3, y4, y5, y6⟩ := sixfl Y0
 refine (both_any _ _ _ _ _ _ _ _ _ _ _ _ _ _ _ _ _ _).mono ?_
 rintro e w1 ⟨rfl, k1⟩
 have X1 := VT.Six.below X0 k1
 have Y1 := VT.Six.below Y0 k1
 have O1 := Own.below O0 k1
 have B1 := bstep B0 k1
 have J1 := hide ((unhide J0).below k1)
 have K1 := hide ((unhide K0).below k1)
 clear k1 X0 Y0 O0 J0 K0 B0 x0 x1 x2 x3 x4 x5 x6 y0 y1 y2 y3 y4 y5 y6
 obtain ⟨x0, x1, x2, x3, x4, x5, x6⟩ := sixfl X1
 obtain ⟨y0, y1, y2, y3, y4, y5, y6⟩ := sixfl Y1
 rw [decide_eq_false (show ¬ (k = 3 ∧ k' = 3) from unhide HK3)]
 go_wp2_with fail
 refine (both_any _ _ _ _ _ _ _ _ _ _ _ _ _ _ _ _ _ _).mono ?_
 rintro e w2 ⟨rfl, k2⟩
 have X2 := VT.Six.below X1 k2
 have Y2 := VT.Six.below Y1 k2
 have O2 := Own.below O1 k2
 have B2 := bstep B1 k2
 have J2 := hide ((unhide J1).below k2)
 have K2 := hide ((unhide K1).below k2)
 clear k2 X1 Y1 O1 J1 K1 B1 x0 x1 x2 x3 x4 x5 x6 y0 y1 y2 y3 y4 y5 y6
 obtain ⟨x0, x1, x2, x3, x4, x5, x6⟩ := sixfl X2
 obtain ⟨y0, y1, y2, y3, y4, y5, y6⟩ := sixfl Y2
 rw [decide_eq_false (show ¬ (k = 2 ∧ k' = 2) from unhide HK)]
 obtain ⟨u0, t0, t1, t2, t3, t4, t5, f0, f1, f2, f3, f4, f5⟩ := Own.fl O2
 try unfold lfv
 go_wp2_with fail
 exact bodyPost_ret (v := .tuple #[lfv 0 false 0 0 ⟨#[]⟩, .int .i64 0]) zR83lt0t1t2t3t4t5 rfl ⟨rfl, zBL⟩
theorem reck_sub (x y : VT) (w : World) (hk : kdV x = 2 ∧ kdV y = 2) (hx : x.okB 2 = true) (hy : y.okB 2 = true) (hin : x.In w) (hin' : y.In w) :
  Calls Tryz.prog 83 #[.string ⟨([45]).toArray⟩, x.val, y.val] w fun e w' => e = .returned (Tup (subR (mOf x) (sOf x) (mOf y) (sOf y))) ∧ Below w.heap.size w w' := by
 obtain ⟨k, b, m, s, t, a, len, cap, kid, rfl⟩ := hin.form
 obtain ⟨k', b', m', s', t', a', len', cap', kid', rfl⟩ := hin'.form
 have BT := boxes2 w k b m s t a len cap k' b' m' s' t' a' len' cap'
 have J0 := hide (hin.below BT.2.2.2.1)
 have K0 := hide (hin'.below BT.2.2.2.1)
 have HK : Hid (k = 2 ∧ k' = 2) := hk
 have I1 := hide (show isB m s = true by obtain ⟨h1, h2⟩ := unhide HK; subst h1; exact okB_num hx)
 have I2 := hide (show isB m' s' = true by obtain ⟨h1, h2⟩ := unhide HK; subst h2; exact okB_num hy)
 have AR := hide (fun w => sub_any m s m' s' w (unhide I1) (unhide I2))
 have ER : Hid (subR (mOf (VT.mk k b m s t a len cap kid)) (sOf (VT.mk k b m s t a len cap kid)) (mOf (VT.mk k' b' m' s' t' a' len' cap' kid')) (sOf (VT.mk k' b' m' s' t' a' len' cap' kid')) = recT (fitM (upM m s (max s s') - upM m' s' (max s s')) (max s s')) (fitS (upM m s (max s s') - upM m' s' (max s s')) (max s s')) (fitE (upM m s (max s s') - upM m' s' (max s s')) (max s s'))) := hide rfl
 rw [unhide ER]
 generalize fitM (upM m s (max s s') - upM m' s' (max s s')) (max s s') = M at *
 generalize fitS (upM m s (max s s') - upM m' s' (max s s')) (max s s') = S at *
 generalize fitE (upM m s (max s s') - upM m' s' (max s s')) (max s s') = E at *
 clear ER hk
 obtain ⟨K, BB, M', SS, TT, eV⟩ := tup_lf (lf_rec M S E)
 have EV := hide eV
 rw [eV]
 generalize hE2 : (recT M S E).2 = E2 at *
 clear hE2 eV
 clear hin hin' hx hy
 show Calls Tryz.prog 83 #[.string ⟨([45]).toArray⟩, .agg #[.int .i64 k, .bool b, .int .i64 m, .int .i64 s, .string t, .slice a len cap], .agg #[.int .i64 k', .bool b', .int .i64 m', .int .i64 s', .string t', .slice a' len' cap']] w _
 go_enter Tryz.func83, Tryz.ntmps83
 go_wp2_with fail
 generalize (((w.alloc (Obj.cells #[.int .i64 k, .bool b, .int .i64 m, .int .i64 s, .string t, .slice a len cap] 32)).alloc (Obj.cells #[.int .i64 k', .bool b', .int .i64 m', .int .i64 s', .string t', .slice a' len' cap'] 32)).alloc (Obj.cells #[.int .i64 0, .bool false, .int .i64 0, .int .i64 0, .string ⟨#[]⟩, .slice none 0 0] 32)) = V at *
 obtain ⟨X0, Y0, O0, B0, z0⟩ := BT
 clear z0
 obtain ⟨x0, x1, x2, x3, x4, x5, x6⟩ := sixfl X0
 obtain ⟨y0, y1, y2, y3, y4, y5, y6⟩ := sixfl Y0
 refine (both_any _ _ _ _ _ _ _ _ _ _ _ _ _ _ _ _ _ _).mono ?_
 rintro e w1 ⟨rfl, k1⟩
 have X1 := VT.Six.below X0 k1
 have Y1 := VT.Six.below Y0 k1
 have O1 := Own.below O0 k1
 have B1 := bstep B0 k1
 have J1 := hide ((unhide J0).below k1)
 have K1 := hide ((unhide K0).below k1)
 clear k1 X0 Y0 O0 J0 K0 B0 x0 x1 x2 x3 x4 x5 x6 y0 y1 y2 y3 y4 y5 y6
 obtain ⟨x0, x1, x2, x3, x4, x5, x6⟩ := sixfl X1
 obtain ⟨y0, y1, y2, y3, y4, y5, y6⟩ := sixfl Y1
 rw [decide_eq_true (show k = 2 ∧ k' = 2 from unhide HK)]
 go_wp2_with fail
 refine (unhide AR _).mono ?_
 rintro e w2 ⟨rfl, k2⟩
 have X2 := VT.Six.below X1 k2
 have Y2 := VT.Six.below Y1 k2
 have O2 := Own.below O1 k2
 have B2 := bstep B1 k2
 have J2 := hide ((unhide J1).below k2)
 have K2 := hide ((unhide K1).below k2)
 clear k2 X1 Y1 O1 J1 K1 B1 x0 x1 x2 x3 x4 x5 x6 y0 y1 y2 y3 y4 y5 y6
 obtain ⟨x0, x1, x2, x3, x4, x5, x6⟩ := sixfl X2
 obtain ⟨y0, y1, y2, y3, y4, y5, y6⟩ := sixfl Y2
 go_wp2_with fail
 refine (reckoned_any _ _ _ _).mono ?_
 rintro e w3 ⟨rfl, k3⟩
 have X3 := VT.Six.below X2 k3
 have Y3 := VT.Six.below Y2 k3
 have O3 := Own.below O2 k3
 have B3 := bstep B2 k3
 have J3 := hide ((unhide J2).below k3)
 have K3 := hide ((unhide K2).below k3)
 clear k3 X2 Y2 O2 J2 K2 B2 x0 x1 x2 x3 x4 x5 x6 y0 y1 y2 y3 y4 y5 y6
 obtain ⟨x0, x1, x2, x3, x4, x5, x6⟩ := sixfl X3
 obtain ⟨y0, y1, y2, y3, y4, y5, y6⟩ := sixfl Y3
 rw [unhide EV]
 obtain ⟨u0, t0, t1, t2, t3, t4, t5, f0, f1, f2, f3, f4, f5⟩ := Own.fl O3
 try unfold lfv
 go_wp2_with fail
 exact bodyPost_ret (v := .tuple #[lfv K BB M' SS TT, .int .i64 E2]) zR83lt0t1t2t3t4t5 rfl ⟨rfl, zBL⟩
theorem reck_nosub (x y : VT) (w : World) (hk : ¬ (kdV x = 2 ∧ kdV y = 2)) (hx : x.okB 2 = true) (hy : y.okB 2 = true) (hin : x.In w) (hin' : y.In w) :
  Calls Tryz.prog 83 #[.string ⟨([45]).toArray⟩, x.val, y.val] w fun e w' => e = .returned (.tuple #[lfv 0 false 0 0 ⟨#[]⟩, .int .i64 0]) ∧ Below w.heap.size w w' := by
 obtain ⟨k, b, m, s, t, a, len, cap, kid, rfl⟩ := hin.form
 obtain ⟨k', b', m', s', t', a', len', cap', kid', rfl⟩ := hin'.form
 have BT := boxes2 w k b m s t a len cap k' b' m' s' t' a' len' cap'
 have J0 := hide (hin.below BT.2.2.2.1)
 have K0 := hide (hin'.below BT.2.2.2.1)
 have HK : Hid (¬ (k = 2 ∧ k' = 2)) := hk
 clear hk
 clear hin hin' hx hy
 show Calls Tryz.prog 83 #[.string ⟨([45]).toArray⟩, .agg #[.int .i64 k, .bool b, .int .i64 m, .int .i64 s, .string t, .slice a len cap], .agg #[.int .i64 k', .bool b', .int .i64 m', .int .i64 s', .string t', .slice a' len' cap']] w _
 go_enter Tryz.func83, Tryz.ntmps83
 go_wp2_with fail
 generalize (((w.alloc (Obj.cells #[.int .i64 k, .bool b, .int .i64 m, .int .i64 s, .string t, .slice a len cap] 32)).alloc (Obj.cells #[.int .i64 k', .bool b', .int .i64 m', .int .i64 s', .string t', .slice a' len' cap'] 32)).alloc (Obj.cells #[.int .i64 0, .bool false, .int .i64 0, .int .i64 0, .string ⟨#[]⟩, .slice none 0 0] 32)) = V at *
 obtain ⟨X0, Y0, O0, B0, z0⟩ := BT
 clear z0
 obtain ⟨x0, x1, x2, x3, x4, x5, x6⟩ := sixfl X0
 obtain ⟨y0, y1, y2, y3, y4, y5, y6⟩ := sixfl Y0
 refine (both_any _ _ _ _ _ _ _ _ _ _ _ _ _ _ _ _ _ _).mono ?_
 rintro e w1 ⟨rfl, k1⟩
 have X1 := VT.Six.below X0 k1
 have Y1 := VT.Six.below Y0 k1
 have O1 := Own.below O0 k1
 have B1 := bstep B0 k1
 have J1 := hide ((unhide J0).below k1)
 have K1 := hide ((unhide K0).below k1)
 clear k1 X0 Y0 O0 J0 K0 B0 x0 x1 x2 x3 x4 x5 x6 y0 y1 y2 y3 y4 y5 y6
 obtain ⟨x0, x1, x2, x3, x4, x5, x6⟩ := sixfl X1
 obtain ⟨y0, y1, y2, y3, y4, y5, y6⟩ := sixfl Y1
 rw [decide_eq_false (show ¬ (k = 2 ∧ k' = 2) from unhide HK)]
 obtain ⟨u0, t0, t1, t2, t3, t4, t5, f0, f1, f2, f3, f4, f5⟩ := Own.fl O1
 try unfold lfv
 go_wp2_with fail
 exact bodyPost_ret (v := .tuple #[lfv 0 false 0 0 ⟨#[]⟩, .int .i64 0]) zR83lt0t1t2t3t4t5 rfl ⟨rfl, zBL⟩
theorem reck_mul (x y : VT) (w : World) (hk : kdV x = 2 ∧ kdV y = 2) (hx : x.okB 2 = true) (hy : y.okB 2 = true) (hin : x.In w) (hin' : y.In w) :
  Calls Tryz.prog 83 #[.string ⟨([42]).toArray⟩, x.val, y.val] w fun e w' => e = .returned (Tup (mulR (mOf x) (sOf x) (mOf y) (sOf y))) ∧ Below w.heap.size w w' := by
 obtain ⟨k, b, m, s, t, a, len, cap, kid, rfl⟩ := hin.form
 obtain ⟨k', b', m', s', t', a', len', cap', kid', rfl⟩ := hin'.form
 have BT := boxes2 w k b m s t a len cap k' b' m' s' t' a' len' cap'
 have J0 := hide (hin.below BT.2.2.2.1)
 have K0 := hide (hin'.below BT.2.2.2.1)
 have HK : Hid (k = 2 ∧ k' = 2) := hk
 have I1 := hide (show isB m s = true by obtain ⟨h1, h2⟩ := unhide HK; subst h1; exact okB_num hx)
 have I2 := hide (show isB m' s' = true by obtain ⟨h1, h2⟩ := unhide HK; subst h2; exact okB_num hy)
 have AR := hide (fun w => mul_any m s m' s' w (unhide I1) (unhide I2))
 have ER : Hid (mulR (mOf (VT.mk k b m s t a len cap kid)) (sOf (VT.mk k b m s t a len cap kid)) (mOf (VT.mk k' b' m' s' t' a' len' cap' kid')) (sOf (VT.mk k' b' m' s' t' a' len' cap' kid')) = recT (fitM (m * m') (s + s')) (fitS (m * m') (s + s')) (fitE (m * m') (s + s'))) := hide rfl
 rw [unhide ER]
 generalize fitM (m * m') (s + s') = M at *
 generalize fitS (m * m') (s + s') = S at *
 generalize fitE (m * m') (s + s') = E at *
 clear ER hk
 obtain ⟨K, BB, M', SS, TT, eV⟩ := tup_lf (lf_rec M S E)
 have EV := hide eV
 rw [eV]
 generalize hE2 : (recT M S E).2 = E2 at *
 clear hE2 eV
 clear hin hin' hx hy
 show Calls Tryz.prog 83 #[.string ⟨([42]).toArray⟩, .agg #[.int .i64 k, .bool b, .int .i64 m, .int .i64 s, .string t, .slice a len cap], .agg #[.int .i64 k', .bool b', .int .i64 m', .int .i64 s', .string t', .slice a' len' cap']] w _
 go_enter Tryz.func83, Tryz.ntmps83
 go_wp2_with fail
 generalize (((w.alloc (Obj.cells #[.int .i64 k, .bool b, .int .i64 m, .int .i64 s, .string t, .slice a len cap] 32)).alloc (Obj.cells #[.int .i64 k', .bool b', .int .i64 m', .int .i64 s', .string t', .slice a' len' cap'] 32)).alloc (Obj.cells #[.int .i64 0, .bool false, .int .i64 0, .int .i64 0, .string ⟨#[]⟩, .slice none 0 0] 32)) = V at *
 obtain ⟨X0, Y0, O0, B0, z0⟩ := BT
 clear z0
 obtain ⟨x0, x1, x2, x3, x4, x5, x6⟩ := sixfl X0
 obtain ⟨y0, y1, y2, y3, y4, y5, y6⟩ := sixfl Y0
 refine (both_any _ _ _ _ _ _ _ _ _ _ _ _ _ _ _ _ _ _).mono ?_
 rintro e w1 ⟨rfl, k1⟩
 have X1 := VT.Six.below X0 k1
 have Y1 := VT.Six.below Y0 k1
 have O1 := Own.below O0 k1
 have B1 := bstep B0 k1
 have J1 := hide ((unhide J0).below k1)
 have K1 := hide ((unhide K0).below k1)
 clear k1 X0 Y0 O0 J0 K0 B0 x0 x1 x2 x3 x4 x5 x6 y0 y1 y2 y3 y4 y5 y6
 obtain ⟨x0, x1, x2, x3, x4, x5, x6⟩ := sixfl X1
 obtain ⟨y0, y1, y2, y3, y4, y5, y6⟩ := sixfl Y1
 rw [decide_eq_true (show k = 2 ∧ k' = 2 from unhide HK)]
 go_wp2_with fail
 refine (unhide AR _).mono ?_
 rintro e w2 ⟨rfl, k2⟩
 have X2 := VT.Six.below X1 k2
 have Y2 := VT.Six.below Y1 k2
 have O2 := Own.below O1 k2
 have B2 := bstep B1 k2
 have J2 := hide ((unhide J1).below k2)
 have K2 := hide ((unhide K1).below k2)
 clear k2 X1 Y1 O1 J1 K1 B1 x0 x1 x2 x3 x4 x5 x6 y0 y1 y2 y3 y4 y5 y6
 obtain ⟨x0, x1, x2, x3, x4, x5, x6⟩ := sixfl X2
 obtain ⟨y0, y1, y2, y3, y4, y5, y6⟩ := sixfl Y2
 go_wp2_with fail
 refine (reckoned_any _ _ _ _).mono ?_
 rintro e w3 ⟨rfl, k3⟩
 have X3 := VT.Six.below X2 k3
 have Y3 := VT.Six.below Y2 k3
 have O3 := Own.below O2 k3
 have B3 := bstep B2 k3
 have J3 := hide ((unhide J2).below k3)
 have K3 := hide ((unhide K2).below k3)
 clear k3 X2 Y2 O2 J2 K2 B2 x0 x1 x2 x3 x4 x5 x6 y0 y1 y2 y3 y4 y5 y6
 obtain ⟨x0, x1, x2, x3, x4, x5, x6⟩ := sixfl X3
 obtain ⟨y0, y1, y2, y3, y4, y5, y6⟩ := sixfl Y3
 rw [unhide EV]
 obtain ⟨u0, t0, t1, t2, t3, t4, t5, f0, f1, f2, f3, f4, f5⟩ := Own.fl O3
 try unfold lfv
 go_wp2_with fail
 exact bodyPost_ret (v := .tuple #[lfv K BB M' SS TT, .int .i64 E2]) zR83lt0t1t2t3t4t5 rfl ⟨rfl, zBL⟩
theorem reck_nomul (x y : VT) (w : World) (hk : ¬ (kdV x = 2 ∧ kdV y = 2)) (hx : x.okB 2 = true) (hy : y.okB 2 = true) (hin : x.In w) (hin' : y.In w) :
  Calls Tryz.prog 83 #[.string ⟨([42]).toArray⟩, x.val, y.val] w fun e w' => e = .returned (.tuple #[lfv 0 false 0 0 ⟨#[]⟩, .int .i64 0]) ∧ Below w.heap.size w w' := by
 obtain ⟨k, b, m, s, t, a, len, cap, kid, rfl⟩ := hin.form
 obtain ⟨k', b', m', s', t', a', len', cap', kid', rfl⟩ := hin'.form
 have BT := boxes2 w k b m s t a len cap k' b' m' s' t' a' len' cap'
 have J0 := hide (hin.below BT.2.2.2.1)
 have K0 := hide (hin'.below BT.2.2.2.1)
 have HK : Hid (¬ (k = 2 ∧ k' = 2)) := hk
 clear hk
 clear hin hin' hx hy
 show Calls Tryz.prog 83 #[.string ⟨([42]).toArray⟩, .agg #[.int .i64 k, .bool b, .int .i64 m, .int .i64 s, .string t, .slice a len cap], .agg #[.int .i64 k', .bool b', .int .i64 m', .int .i64 s', .string t', .slice a' len' cap']] w _
 go_enter Tryz.func83, Tryz.ntmps83
 go_wp2_with fail
 generalize (((w.alloc (Obj.cells #[.int .i64 k, .bool b, .int .i64 m, .int .i64 s, .string t, .slice a len cap] 32)).alloc (Obj.cells #[.int .i64 k', .bool b', .int .i64 m', .int .i64 s', .string t', .slice a' len' cap'] 32)).alloc (Obj.cells #[.int .i64 0, .bool false, .int .i64 0, .int .i64 0, .string ⟨#[]⟩, .slice none 0 0] 32)) = V at *
 obtain ⟨X0, Y0, O0, B0, z0⟩ := BT
 clear z0
 obtain ⟨x0, x1, x2, x3, x4, x5, x6⟩ := sixfl X0
 obtain ⟨y0, y1, y2, y3, y4, y5, y6⟩ := sixfl Y0
 refine (both_any _ _ _ _ _ _ _ _ _ _ _ _ _ _ _ _ _ _).mono ?_
 rintro e w1 ⟨rfl, k1⟩
 have X1 := VT.Six.below X0 k1
 have Y1 := VT.Six.below Y0 k1
 have O1 := Own.below O0 k1
 have B1 := bstep B0 k1
 have J1 := hide ((unhide J0).below k1)
 have K1 := hide ((unhide K0).below k1)
 clear k1 X0 Y0 O0 J0 K0 B0 x0 x1 x2 x3 x4 x5 x6 y0 y1 y2 y3 y4 y5 y6
 obtain ⟨x0, x1, x2, x3, x4, x5, x6⟩ := sixfl X1
 obtain ⟨y0, y1, y2, y3, y4, y5, y6⟩ := sixfl Y1
 rw [decide_eq_false (show ¬ (k = 2 ∧ k' = 2) from unhide HK)]
 obtain ⟨u0, t0, t1, t2, t3, t4, t5, f0, f1, f2, f3, f4, f5⟩ := Own.fl O1
 try unfold lfv
 go_wp2_with fail
 exact bodyPost_ret (v := .tuple #[lfv 0 false 0 0 ⟨#[]⟩, .int .i64 0]) zR83lt0t1t2t3t4t5 rfl ⟨rfl, zBL⟩
theorem reck_div (x y : VT) (w : World) (hk : kdV x = 2 ∧ kdV y = 2) (hn : mOf y ≠ 0) (hx : x.okB 2 = true) (hy : y.okB 2 = true) (hin : x.In w) (hin' : y.In w) :
  Calls Tryz.prog 83 #[.string ⟨([47]).toArray⟩, x.val, y.val] w fun e w' => e = .returned (Tup (fitR (divQ (mOf x) (sOf x) (mOf y) (sOf y)) 4)) ∧ Below w.heap.size w w' := by
 obtain ⟨k, b, m, s, t, a, len, cap, kid, rfl⟩ := hin.form
 obtain ⟨k', b', m', s', t', a', len', cap', kid', rfl⟩ := hin'.form
 have BT := boxes2 w k b m s t a len cap k' b' m' s' t' a' len' cap'
 have J0 := hide (hin.below BT.2.2.2.1)
 have K0 := hide (hin'.below BT.2.2.2.1)
 have hn : m' ≠ 0 := hn
 have HK : Hid (k = 2 ∧ k' = 2) := hk
 have I1 := hide (show isB m s = true by obtain ⟨h1, h2⟩ := unhide HK; subst h1; exact okB_num hx)
 have I2 := hide (show isB m' s' = true by obtain ⟨h1, h2⟩ := unhide HK; subst h2; exact okB_num hy)
 have AR := hide (fun w => div_any m s m' s' w (unhide I1) (unhide I2) hn)
 have ER : Hid (fitR (divQ (mOf (VT.mk k b m s t a len cap kid)) (sOf (VT.mk k b m s t a len cap kid)) (mOf (VT.mk k' b' m' s' t' a' len' cap' kid')) (sOf (VT.mk k' b' m' s' t' a' len' cap' kid'))) 4 = recT (fitM (divQ m s m' s') 4) (fitS (divQ m s m' s') 4) (fitE (divQ m s m' s') 4)) := hide rfl
 rw [unhide ER]
 generalize fitM (divQ m s m' s') 4 = M at *
 generalize fitS (divQ m s m' s') 4 = S at *
 generalize fitE (divQ m s m' s') 4 = E at *
 clear ER hk
 obtain ⟨K, BB, M', SS, TT, eV⟩ := tup_lf (lf_rec M S E)
 have EV := hide eV
 rw [eV]
 generalize hE2 : (recT M S E).2 = E2 at *
 clear hE2 eV
 have e4 : (m' == 0) = false := by simpa using hn
 clear hn
 clear hin hin' hx hy
 show Calls Tryz.prog 83 #[.string ⟨([47]).toArray⟩, .agg #[.int .i64 k, .bool b, .int .i64 m, .int .i64 s, .string t, .slice a len cap], .agg #[.int .i64 k', .bool b', .int .i64 m', .int .i64 s', .string t', .slice a' len' cap']] w _
 go_enter Tryz.func83, Tryz.ntmps83
 go_wp2_with fail
 generalize (((w.alloc (Obj.cells #[.int .i64 k, .bool b, .int .i64 m, .int .i64 s, .string t, .slice a len cap] 32)).alloc (Obj.cells #[.int .i64 k', .bool b', .int .i64 m', .int .i64 s', .string t', .slice a' len' cap'] 32)).alloc (Obj.cells #[.int .i64 0, .bool false, .int .i64 0, .int .i64 0, .string ⟨#[]⟩, .slice none 0 0] 32)) = V at *
 obtain ⟨X0, Y0, O0, B0, z0⟩ := BT
 clear z0
 obtain ⟨x0, x1, x2, x3, x4, x5, x6⟩ := sixfl X0
 obtain ⟨y0, y1, y2, y3, y4, y5, y6⟩ := sixfl Y0
 refine (both_any _ _ _ _ _ _ _ _ _ _ _ _ _ _ _ _ _ _).mono ?_
 rintro e w1 ⟨rfl, k1⟩
 have X1 := VT.Six.below X0 k1
 have Y1 := VT.Six.below Y0 k1
 have O1 := Own.below O0 k1
 have B1 := bstep B0 k1
 have J1 := hide ((unhide J0).below k1)
 have K1 := hide ((unhide K0).below k1)
 clear k1 X0 Y0 O0 J0 K0 B0 x0 x1 x2 x3 x4 x5 x6 y0 y1 y2 y3 y4 y5 y6
 obtain ⟨x0, x1, x2, x3, x4, x5, x6⟩ := sixfl X1
 obtain ⟨y0, y1, y2, y3, y4, y5, y6⟩ := sixfl Y1
 rw [decide_eq_true (show k = 2 ∧ k' = 2 from unhide HK)]
 go_wp2_with fail
 refine (unhide AR _).mono ?_
 rintro e w2 ⟨rfl, k2⟩
 have X2 := VT.Six.below X1 k2
 have Y2 := VT.Six.below Y1 k2
 have O2 := Own.below O1 k2
 have B2 := bstep B1 k2
 have J2 := hide ((unhide J1).below k2)
 have K2 := hide ((unhide K1).below k2)
 clear k2 X1 Y1 O1 J1 K1 B1 x0 x1 x2 x3 x4 x5 x6 y0 y1 y2 y3 y4 y5 y6
 obtain ⟨x0, x1, x2, x3, x4, x5, x6⟩ := sixfl X2
 obtain ⟨y0, y1, y2, y3, y4, y5, y6⟩ := sixfl Y2
 go_wp2_with fail
 refine (reckoned_any _ _ _ _).mono ?_
 rintro e w3 ⟨rfl, k3⟩
 have X3 := VT.Six.below X2 k3
 have Y3 := VT.Six.below Y2 k3
 have O3 := Own.below O2 k3
 have B3 := bstep B2 k3
 have J3 := hide ((unhide J2).below k3)
 have K3 := hide ((unhide K2).below k3)
 clear k3 X2 Y2 O2 J2 K2 B2 x0 x1 x2 x3 x4 x5 x6 y0 y1 y2 y3 y4 y5 y6
 obtain ⟨x0, x1, x2, x3, x4, x5, x6⟩ := sixfl X3
 obtain ⟨y0, y1, y2, y3, y4, y5, y6⟩ := sixfl Y3
 rw [unhide EV]
 obtain ⟨u0, t0, t1, t2, t3, t4, t5, f0, f1, f2, f3, f4, f5⟩ := Own.fl O3
 try unfold lfv
 go_wp2_with fail
 exact bodyPost_ret (v := .tuple #[lfv K BB M' SS TT, .int .i64 E2]) zR83lt0t1t2t3t4t5 rfl ⟨rfl, zBL⟩
theorem reck_nodiv (x y : VT) (w : World) (hk : ¬ (kdV x = 2 ∧ kdV y = 2)) (hx : x.okB 2 = true) (hy : y.okB 2 = true) (hin : x.In w) (hin' : y.In w) :
  Calls Tryz.prog 83 #[.string ⟨([47]).toArray⟩, x.val, y.val] w fun e w' => e = .returned (.tuple #[lfv 0 false 0 0 ⟨#[]⟩, .int .i64 0]) ∧ Below w.heap.size w w' := by
 obtain ⟨k, b, m, s, t, a, len, cap, kid, rfl⟩ := hin.form
 obtain ⟨k', b', m', s', t', a', len', cap', kid', rfl⟩ := hin'.form
 have BT := boxes2 w k b m s t a len cap k' b' m' s' t' a' len' cap'
 have J0 := hide (hin.below BT.2.2.2.1)
 have K0 := hide (hin'.below BT.2.2.2.1)
 have HK : Hid (¬ (k = 2 ∧ k' = 2)) := hk
 clear hk
 clear hin hin' hx hy
 show Calls Tryz.prog 83 #[.string ⟨([47]).toArray⟩, .agg #[.int .i64 k, .bool b, .int .i64 m, .int .i64 s, .string t, .slice a len cap], .agg #[.int .i64 k', .bool b', .int .i64 m', .int .i64 s', .string t', .slice a' len' cap']] w _
 go_enter Tryz.func83, Tryz.ntmps83
 go_wp2_with fail
 generalize (((w.alloc (Obj.cells #[.int .i64 k, .bool b, .int .i64 m, .int .i64 s, .string t, .slice a len cap] 32)).alloc (Obj.cells #[.int .i64 k', .bool b', .int .i64 m', .int .i64 s', .string t', .slice a' len' cap'] 32)).alloc (Obj.cells #[.int .i64 0, .bool false, .int .i64 0, .int .i64 0, .string ⟨#[]⟩, .slice none 0 0] 32)) = V at *
 obtain ⟨X0, Y0, O0, B0, z0⟩ := BT
 clear z0
 obtain ⟨x0, x1, x2, x3, x4, x5, x6⟩ := sixfl X0
 obtain ⟨y0, y1, y2, y3, y4, y5, y6⟩ := sixfl Y0
 refine (both_any _ _ _ _ _ _ _ _ _ _ _ _ _ _ _ _ _ _).mono ?_
 rintro e w1 ⟨rfl, k1⟩
 have X1 := VT.Six.below X0 k1
 have Y1 := VT.Six.below Y0 k1
 have O1 := Own.below O0 k1
 have B1 := bstep B0 k1
 have J1 := hide ((unhide J0).below k1)
 have K1 := hide ((unhide K0).below k1)
 clear k1 X0 Y0 O0 J0 K0 B0 x0 x1 x2 x3 x4 x5 x6 y0 y1 y2 y3 y4 y5 y6
 obtain ⟨x0, x1, x2, x3, x4, x5, x6⟩ := sixfl X1
 obtain ⟨y0, y1, y2, y3, y4, y5, y6⟩ := sixfl Y1
 rw [decide_eq_false (show ¬ (k = 2 ∧ k' = 2) from unhide HK)]
 obtain ⟨u0, t0, t1, t2, t3, t4, t5, f0, f1, f2, f3, f4, f5⟩ := Own.fl O1
 try unfold lfv
 go_wp2_with fail
 exact bodyPost_ret (v := .tuple #[lfv 0 false 0 0 ⟨#[]⟩, .int .i64 0]) zR83lt0t1t2t3t4t5 rfl ⟨rfl, zBL⟩
theorem reck_nought (x y : VT) (w : World) (hk : kdV x = 2 ∧ kdV y = 2) (hn : mOf y = 0) (hx : x.okB 2 = true) (hy : y.okB 2 = true) (hin : x.In w) (hin' : y.In w) :
  Calls Tryz.prog 83 #[.string ⟨([47]).toArray⟩, x.val, y.val] w fun e w' => e = .returned (.tuple #[lfv 0 false 0 0 ⟨#[]⟩, .int .i64 0]) ∧ Below w.heap.size w w' := by
 obtain ⟨k, b, m, s, t, a, len, cap, kid, rfl⟩ := hin.form
 obtain ⟨k', b', m', s', t', a', len', cap', kid', rfl⟩ := hin'.form
 have BT := boxes2 w k b m s t a len cap k' b' m' s' t' a' len' cap'
 have J0 := hide (hin.below BT.2.2.2.1)
 have K0 := hide (hin'.below BT.2.2.2.1)
 have HK : Hid (k = 2 ∧ k' = 2) := hk
 have hn : m' = 0 := hn
 subst hn
 clear hk
 clear hin hin' hx hy
 show Calls Tryz.prog 83 #[.string ⟨([47]).toArray⟩, .agg #[.int .i64 k, .bool b, .int .i64 m, .int .i64 s, .string t, .slice a len cap], .agg #[.int .i64 k', .bool b', .int .i64 0, .int .i64 s', .string t', .slice a' len' cap']] w _
 go_enter Tryz.func83, Tryz.ntmps83
 go_wp2_with fail
 generalize (((w.alloc (Obj.cells #[.int .i64 k, .bool b, .int .i64 m, .int .i64 s, .string t, .slice a len cap] 32)).alloc (Obj.cells #[.int .i64 k', .bool b', .int .i64 0, .int .i64 s', .string t', .slice a' len' cap'] 32)).alloc (Obj.cells #[.int .i64 0, .bool false, .int .i64 0, .int .i64 0, .string ⟨#[]⟩, .slice none 0 0] 32)) = V at *
 obtain ⟨X0, Y0, O0, B0, z0⟩ := BT
 clear z0
 obtain ⟨x0, x1, x2, x3, x4, x5, x6⟩ := sixfl X0
 obtain ⟨y0, y1, y2, y3, y4, y5, y6⟩ := sixfl Y0
 refine (both_any _ _ _ _ _ _ _ _ _ _ _ _ _ _ _ _ _ _).mono ?_
 rintro e w1 ⟨rfl, k1⟩
 have X1 := VT.Six.below X0 k1
 have Y1 := VT.Six.below Y0 k1
 have O1 := Own.below O0 k1
 have B1 := bstep B0 k1
 have J1 := hide ((unhide J0).below k1)
 have K1 := hide ((unhide K0).below k1)
 clear k1 X0 Y0 O0 J0 K0 B0 x0 x1 x2 x3 x4 x5 x6 y0 y1 y2 y3 y4 y5 y6
 obtain ⟨x0, x1, x2, x3, x4, x5, x6⟩ := sixfl X1
 obtain ⟨y0, y1, y2, y3, y4, y5, y6⟩ := sixfl Y1
 rw [decide_eq_true (show k = 2 ∧ k' = 2 from unhide HK)]
 obtain ⟨u0, t0, t1, t2, t3, t4, t5, f0, f1, f2, f3, f4, f5⟩ := Own.fl O1
 try unfold lfv
 go_wp2_with fail
 exact bodyPost_ret (v := .tuple #[lfv 0 false 0 0 ⟨#[]⟩, .int .i64 0]) zR83lt0t1t2t3t4t5 rfl ⟨rfl, zBL⟩
theorem reck_cat (x y : VT) (w : World) (hk : kdV x = 3 ∧ kdV y = 3) (hx : x.okB 2 = true) (hy : y.okB 2 = true) (hin : x.In w) (hin' : y.In w) :
  Calls Tryz.prog 83 #[.string ⟨([43]).toArray⟩, x.val, y.val] w fun e w' => e = .returned (Tup (catT [x, y])) ∧ Below w.heap.size w w' := by
 obtain ⟨k, b, m, s, t, a, len, cap, kid, rfl⟩ := hin.form
 obtain ⟨k', b', m', s', t', a', len', cap', kid', rfl⟩ := hin'.form
 have BT := boxes2 w k b m s t a len cap k' b' m' s' t' a' len' cap'
 have J0 := hide (hin.below BT.2.2.2.1)
 have K0 := hide (hin'.below BT.2.2.2.1)
 have HK : Hid (k = 3 ∧ k' = 3) := hk
 have CT := hide (fun a9 c9 w h => cat_any a9 c9 [(VT.mk k b m s t a len cap kid), (VT.mk k' b' m' s' t' a' len' cap' kid')] w h (fun v hv => by rcases List.mem_cons.1 hv with h | h; rw [h]; exact hx; rcases List.mem_cons.1 h with h | h; rw [h]; exact hy; cases h))
 obtain ⟨K, BB, M', SS, TT, eV⟩ := tup_lf (lf_cat [(VT.mk k b m s t a len cap kid), (VT.mk k' b' m' s' t' a' len' cap' kid')])
 have EV := hide eV
 rw [eV]
 generalize hE2 : (catT [(VT.mk k b m s t a len cap kid), (VT.mk k' b' m' s' t' a' len' cap' kid')]).2 = E2 at *
 clear hE2 eV hk
 clear hin hin' hx hy
 show Calls Tryz.prog 83 #[.string ⟨([43]).toArray⟩, .agg #[.int .i64 k, .bool b, .int .i64 m, .int .i64 s, .string t, .slice a len cap], .agg #[.int .i64 k', .bool b', .int .i64 m', .int .i64 s', .string t', .slice a' len' cap']] w _
 go_enter Tryz.func83, Tryz.ntmps83
 go_wp2_with fail
 generalize (((w.alloc (Obj.cells #[.int .i64 k, .bool b, .int .i64 m, .int .i64 s, .string t, .slice a len cap] 32)).alloc (Obj.cells #[.int .i64 k', .bool b', .int .i64 m', .int .i64 s', .string t', .slice a' len' cap'] 32)).alloc (Obj.cells #[.int .i64 0, .bool false, .int .i64 0, .int .i64 0, .string ⟨#[]⟩, .slice none 0 0] 32)) = V at *
 obtain ⟨X0, Y0, O0, B0, z0⟩ := BT
 clear z0
 obtain ⟨x0, x1, x2, x3, x4, x5, x6⟩ := sixfl X0
 obtain ⟨y0, y1, y2, y3, y4, y5, y6⟩ := sixfl Y0
 refine (both_any _ _ _ _ _ _ _ _ _ _ _ _ _ _ _ _ _ _).mono ?_
 rintro e w1 ⟨rfl, k1⟩
 have X1 := VT.Six.below X0 k1
 have Y1 := VT.Six.below Y0 k1
 have O1 := Own.below O0 k1
 have B1 := bstep B0 k1
 have J1 := hide ((unhide J0).below k1)
 have K1 := hide ((unhide K0).below k1)
 clear k1 X0 Y0 O0 J0 K0 B0 x0 x1 x2 x3 x4 x5 x6 y0 y1 y2 y3 y4 y5 y6
 obtain ⟨x0, x1, x2, x3, x4, x5, x6⟩ := sixfl X1
 obtain ⟨y0, y1, y2, y3, y4, y5, y6⟩ := sixfl Y1
 rw [decide_eq_true (show k = 3 ∧ k' = 3 from unhide HK)]
 go_wp2_with fail
 have bs := below1 w1 (Obj.cells #[.int .i64 k, .bool b, .int .i64 m, .int .i64 s, .string t, .slice a len cap, .int .i64 k', .bool b', .int .i64 m', .int .i64 s', .string t', .slice a' len' cap'] 32)
 have RW : (rowT (some ⟨w1.heap.size, 0, none⟩) 2 [(VT.mk k b m s t a len cap kid), (VT.mk k' b' m' s' t' a' len' cap' kid')]).In (w1.alloc (Obj.cells #[.int .i64 k, .bool b, .int .i64 m, .int .i64 s, .string t, .slice a len cap, .int .i64 k', .bool b', .int .i64 m', .int .i64 s', .string t', .slice a' len' cap'] 32)) := by
  refine two_row ((unhide J1).below bs) ((unhide K1).below bs) (fun j hj => ?_) (fun j hj => ?_)
  ·match j, hj with
   | 0, _ => go_simp; rfl
   | 1, _ => go_simp; rfl
   | 2, _ => go_simp; rfl
   | 3, _ => go_simp; rfl
   | 4, _ => go_simp; rfl
   | 5, _ => go_simp; rfl
  ·match j, hj with
   | 0, _ => go_simp; rfl
   | 1, _ => go_simp; rfl
   | 2, _ => go_simp; rfl
   | 3, _ => go_simp; rfl
   | 4, _ => go_simp; rfl
   | 5, _ => go_simp; rfl
 refine (unhide CT _ _ _ RW).mono ?_
 rintro e w2 ⟨rfl, k2⟩
 have O2 := (O1.below bs).below k2
 have B2 := bstep (bstep B1 bs) k2
 clear k2 RW bs O1 B1 X1 Y1 J1 K1 x0 x1 x2 x3 x4 x5 x6 y0 y1 y2 y3 y4 y5 y6
 rw [unhide EV]
 obtain ⟨u0, t0, t1, t2, t3, t4, t5, f0, f1, f2, f3, f4, f5⟩ := Own.fl O2
 try unfold lfv
 go_wp2_with fail
 exact bodyPost_ret (v := .tuple #[lfv K BB M' SS TT, .int .i64 E2]) zR83lt0t1t2t3t4t5 rfl ⟨rfl, zBL⟩
theorem reckon_any (l : List UInt8) (hl : l = [43] ∨ l = [45] ∨ l = [42] ∨ l = [47]) (x y : VT) (w : World) (hx : x.okB 2 = true) (hy : y.okB 2 = true) (hin : x.In w) (hin' : y.In w) :
  Calls Tryz.prog 83 #[.string ⟨l.toArray⟩, x.val, y.val] w fun e w' => e = .returned (Tup (recoT l x y)) ∧ Below w.heap.size w w' := by
 unfold recoT
 by_cases hc : l = [43] ∧ kdV x = 3 ∧ kdV y = 3
 ·rw [if_pos hc]
  obtain ⟨rfl, hc⟩ := hc
  exact reck_cat x y w hc hx hy hin hin'
 rw [if_neg hc]
 by_cases hk : kdV x = 2 ∧ kdV y = 2
 ·rw [if_pos hk]
  rcases hl with rfl | rfl | rfl | rfl
  ·rw [if_pos rfl]; exact reck_add x y w hk hx hy hin hin'
  ·rw [if_neg (by decide), if_pos rfl]; exact reck_sub x y w hk hx hy hin hin'
  ·rw [if_neg (by decide), if_neg (by decide), if_pos rfl]; exact reck_mul x y w hk hx hy hin hin'
  ·rw [if_neg (by decide), if_neg (by decide), if_neg (by decide)]
   unfold divR
   by_cases hn : mOf y = 0
   ·rw [if_pos hn]; exact reck_nought x y w hk hn hx hy hin hin'
   ·rw [if_neg hn]; exact reck_div x y w hk hn hx hy hin hin'
 ·rw [if_neg hk]
  rcases hl with rfl | rfl | rfl | rfl
  ·exact reck_noadd x y w hk (fun h => hc ⟨rfl, h⟩) hx hy hin hin'
  ·exact reck_nosub x y w hk hx hy hin hin'
  ·exact reck_nomul x y w hk hx hy hin hin'
  ·exact reck_nodiv x y w hk hx hy hin hin'
theorem lf_and (x y : VT) : LF (andV x y) := ⟨_, _, _, _, _, rfl⟩
theorem lf_or (x y : VT) : LF (orV x y) := ⟨_, _, _, _, _, rfl⟩
theorem lf_reco (l : List UInt8) (x y : VT) : LF (recoT l x y).1 := by
 unfold recoT addR subR mulR divR fitR
 repeat (first | exact lf_nil | exact lf_cat _ | exact lf_rec _ _ _ | split)
theorem bin_and (x y : VT) (w : World) (hx : x.okB 2 = true) (hy : y.okB 2 = true) (hin : x.In w) (hin' : y.In w) :
  Calls Tryz.prog 51 #[.string ⟨([97, 110, 100]).toArray⟩, x.val, y.val] w fun e w' => e = .returned (Tup (andV x y, 0)) ∧ Below w.heap.size w w' := by
 obtain ⟨k, b, m, s, t, a, len, cap, kid, rfl⟩ := hin.form
 obtain ⟨k', b', m', s', t', a', len', cap', kid', rfl⟩ := hin'.form
 have BT := boxes2 w k b m s t a len cap k' b' m' s' t' a' len' cap'
 have J0 := hide (hin.below BT.2.2.2.1)
 have K0 := hide (hin'.below BT.2.2.2.1)
 obtain ⟨K, BB, M', SS, TT, eV⟩ := (lf_and (VT.mk k b m s t a len cap kid) (VT.mk k' b' m' s' t' a' len' cap' kid')).val
 have CV := hide (fun w => and_any k b m s t a len cap k' b' m' s' t' a' len' cap' w)
 have EV : Hid (tval (andK (unB k b) (unB k' b') (trB k b) (trB k' b')) (andB (unB k b) (unB k' b') (trB k b) (trB k' b')) = lfv K BB M' SS TT) := hide eV
 unfold Tup
 rw [eV]
 clear eV
 rw [unhide EV] at CV
 clear hin hin' hx hy
 show Calls Tryz.prog 51 #[.string ⟨([97, 110, 100]).toArray⟩, .agg #[.int .i64 k, .bool b, .int .i64 m, .int .i64 s, .string t, .slice a len cap], .agg #[.int .i64 k', .bool b', .int .i64 m', .int .i64 s', .string t', .slice a' len' cap']] w _
 go_enter Tryz.func51, Tryz.ntmps51
 go_wp2_with fail
 generalize (((w.alloc (Obj.cells #[.int .i64 k, .bool b, .int .i64 m, .int .i64 s, .string t, .slice a len cap] 32)).alloc (Obj.cells #[.int .i64 k', .bool b', .int .i64 m', .int .i64 s', .string t', .slice a' len' cap'] 32)).alloc (Obj.cells #[.int .i64 0, .bool false, .int .i64 0, .int .i64 0, .string ⟨#[]⟩, .slice none 0 0] 32)) = V at *
 obtain ⟨X0, Y0, O0, B0, z0⟩ := BT
 clear z0
 obtain ⟨x0, x1, x2, x3, x4, x5, x6⟩ := sixfl X0
 obtain ⟨y0, y1, y2, y3, y4, y5, y6⟩ := sixfl Y0
 refine (unhide CV _).mono ?_
 rintro e w1 ⟨rfl, k1⟩
 have X1 := VT.Six.below X0 k1
 have Y1 := VT.Six.below Y0 k1
 have O1 := Own.below O0 k1
 have B1 := bstep B0 k1
 have J1 := hide ((unhide J0).below k1)
 have K1 := hide ((unhide K0).below k1)
 clear k1 X0 Y0 O0 J0 K0 B0 x0 x1 x2 x3 x4 x5 x6 y0 y1 y2 y3 y4 y5 y6
 obtain ⟨x0, x1, x2, x3, x4, x5, x6⟩ := sixfl X1
 obtain ⟨y0, y1, y2, y3, y4, y5, y6⟩ := sixfl Y1
 obtain ⟨u0, t0, t1, t2, t3, t4, t5, f0, f1, f2, f3, f4, f5⟩ := Own.fl O1
 try unfold lfv
 go_wp2_with fail
 exact bodyPost_ret (v := .tuple #[lfv K BB M' SS TT, .int .i64 0]) zR51lt0t1t2t3t4t5 rfl ⟨rfl, zBL⟩
theorem bin_or (x y : VT) (w : World) (hx : x.okB 2 = true) (hy : y.okB 2 = true) (hin : x.In w) (hin' : y.In w) :
  Calls Tryz.prog 51 #[.string ⟨([111, 114]).toArray⟩, x.val, y.val] w fun e w' => e = .returned (Tup (orV x y, 0)) ∧ Below w.heap.size w w' := by
 obtain ⟨k, b, m, s, t, a, len, cap, kid, rfl⟩ := hin.form
 obtain ⟨k', b', m', s', t', a', len', cap', kid', rfl⟩ := hin'.form
 have BT := boxes2 w k b m s t a len cap k' b' m' s' t' a' len' cap'
 have J0 := hide (hin.below BT.2.2.2.1)
 have K0 := hide (hin'.below BT.2.2.2.1)
 obtain ⟨K, BB, M', SS, TT, eV⟩ := (lf_or (VT.mk k b m s t a len cap kid) (VT.mk k' b' m' s' t' a' len' cap' kid')).val
 have CV := hide (fun w => or_any k b m s t a len cap k' b' m' s' t' a' len' cap' w)
 have EV : Hid (tval (orK (trB k b) (trB k' b') (unB k b) (unB k' b')) (orB (trB k b) (trB k' b')) = lfv K BB M' SS TT) := hide eV
 unfold Tup
 rw [eV]
 clear eV
 rw [unhide EV] at CV
 clear hin hin' hx hy
 show Calls Tryz.prog 51 #[.string ⟨([111, 114]).toArray⟩, .agg #[.int .i64 k, .bool b, .int .i64 m, .int .i64 s, .string t, .slice a len cap], .agg #[.int .i64 k', .bool b', .int .i64 m', .int .i64 s', .string t', .slice a' len' cap']] w _
 go_enter Tryz.func51, Tryz.ntmps51
 go_wp2_with fail
 generalize (((w.alloc (Obj.cells #[.int .i64 k, .bool b, .int .i64 m, .int .i64 s, .string t, .slice a len cap] 32)).alloc (Obj.cells #[.int .i64 k', .bool b', .int .i64 m', .int .i64 s', .string t', .slice a' len' cap'] 32)).alloc (Obj.cells #[.int .i64 0, .bool false, .int .i64 0, .int .i64 0, .string ⟨#[]⟩, .slice none 0 0] 32)) = V at *
 obtain ⟨X0, Y0, O0, B0, z0⟩ := BT
 clear z0
 obtain ⟨x0, x1, x2, x3, x4, x5, x6⟩ := sixfl X0
 obtain ⟨y0, y1, y2, y3, y4, y5, y6⟩ := sixfl Y0
 refine (unhide CV _).mono ?_
 rintro e w1 ⟨rfl, k1⟩
 have X1 := VT.Six.below X0 k1
 have Y1 := VT.Six.below Y0 k1
 have O1 := Own.below O0 k1
 have B1 := bstep B0 k1
 have J1 := hide ((unhide J0).below k1)
 have K1 := hide ((unhide K0).below k1)
 clear k1 X0 Y0 O0 J0 K0 B0 x0 x1 x2 x3 x4 x5 x6 y0 y1 y2 y3 y4 y5 y6
 obtain ⟨x0, x1, x2, x3, x4, x5, x6⟩ := sixfl X1
 obtain ⟨y0, y1, y2, y3, y4, y5, y6⟩ := sixfl Y1
 obtain ⟨u0, t0, t1, t2, t3, t4, t5, f0, f1, f2, f3, f4, f5⟩ := Own.fl O1
 try unfold lfv
 go_wp2_with fail
 exact bodyPost_ret (v := .tuple #[lfv K BB M' SS TT, .int .i64 0]) zR51lt0t1t2t3t4t5 rfl ⟨rfl, zBL⟩
theorem bin_add (x y : VT) (w : World) (hx : x.okB 2 = true) (hy : y.okB 2 = true) (hin : x.In w) (hin' : y.In w) :
  Calls Tryz.prog 51 #[.string ⟨([43]).toArray⟩, x.val, y.val] w fun e w' => e = .returned (Tup (recoT [43] x y)) ∧ Below w.heap.size w w' := by
 obtain ⟨k, b, m, s, t, a, len, cap, kid, rfl⟩ := hin.form
 obtain ⟨k', b', m', s', t', a', len', cap', kid', rfl⟩ := hin'.form
 have BT := boxes2 w k b m s t a len cap k' b' m' s' t' a' len' cap'
 have J0 := hide (hin.below BT.2.2.2.1)
 have K0 := hide (hin'.below BT.2.2.2.1)
 have CV := hide (fun w h h' => reckon_any [43] (by simp) (VT.mk k b m s t a len cap kid) (VT.mk k' b' m' s' t' a' len' cap' kid') w hx hy h h')
 obtain ⟨K, BB, M', SS, TT, eV⟩ := tup_lf (lf_reco [43] (VT.mk k b m s t a len cap kid) (VT.mk k' b' m' s' t' a' len' cap' kid'))
 have EV := hide eV
 rw [eV]
 generalize hE2 : (recoT [43] (VT.mk k b m s t a len cap kid) (VT.mk k' b' m' s' t' a' len' cap' kid')).2 = E2 at *
 clear hE2 eV
 clear hin hin' hx hy
 show Calls Tryz.prog 51 #[.string ⟨([43]).toArray⟩, .agg #[.int .i64 k, .bool b, .int .i64 m, .int .i64 s, .string t, .slice a len cap], .agg #[.int .i64 k', .bool b', .int .i64 m', .int .i64 s', .string t', .slice a' len' cap']] w _
 go_enter Tryz.func51, Tryz.ntmps51
 go_wp2_with fail
 generalize (((w.alloc (Obj.cells #[.int .i64 k, .bool b, .int .i64 m, .int .i64 s, .string t, .slice a len cap] 32)).alloc (Obj.cells #[.int .i64 k', .bool b', .int .i64 m', .int .i64 s', .string t', .slice a' len' cap'] 32)).alloc (Obj.cells #[.int .i64 0, .bool false, .int .i64 0, .int .i64 0, .string ⟨#[]⟩, .slice none 0 0] 32)) = V at *
 obtain ⟨X0, Y0, O0, B0, z0⟩ := BT
 clear z0
 obtain ⟨x0, x1, x2, x3, x4, x5, x6⟩ := sixfl X0
 obtain ⟨y0, y1, y2, y3, y4, y5, y6⟩ := sixfl Y0
 refine (unhide CV _ (unhide J0) (unhide K0)).mono ?_
 rintro e w1 ⟨rfl, k1⟩
 have X1 := VT.Six.below X0 k1
 have Y1 := VT.Six.below Y0 k1
 have O1 := Own.below O0 k1
 have B1 := bstep B0 k1
 have J1 := hide ((unhide J0).below k1)
 have K1 := hide ((unhide K0).below k1)
 clear k1 X0 Y0 O0 J0 K0 B0 x0 x1 x2 x3 x4 x5 x6 y0 y1 y2 y3 y4 y5 y6
 obtain ⟨x0, x1, x2, x3, x4, x5, x6⟩ := sixfl X1
 obtain ⟨y0, y1, y2, y3, y4, y5, y6⟩ := sixfl Y1
 rw [unhide EV]
 obtain ⟨u0, t0, t1, t2, t3, t4, t5, f0, f1, f2, f3, f4, f5⟩ := Own.fl O1
 try unfold lfv
 go_wp2_with fail
 exact bodyPost_ret (v := .tuple #[lfv K BB M' SS TT, .int .i64 E2]) zR51lt0t1t2t3t4t5 rfl ⟨rfl, zBL⟩
theorem bin_sub (x y : VT) (w : World) (hx : x.okB 2 = true) (hy : y.okB 2 = true) (hin : x.In w) (hin' : y.In w) :
  Calls Tryz.prog 51 #[.string ⟨([45]).toArray⟩, x.val, y.val] w fun e w' => e = .returned (Tup (recoT [45] x y)) ∧ Below w.heap.size w w' := by
 obtain ⟨k, b, m, s, t, a, len, cap, kid, rfl⟩ := hin.form
 obtain ⟨k', b', m', s', t', a', len', cap', kid', rfl⟩ := hin'.form
 have BT := boxes2 w k b m s t a len cap k' b' m' s' t' a' len' cap'
 have J0 := hide (hin.below BT.2.2.2.1)
 have K0 := hide (hin'.below BT.2.2.2.1)
 have CV := hide (fun w h h' => reckon_any [45] (by simp) (VT.mk k b m s t a len cap kid) (VT.mk k' b' m' s' t' a' len' cap' kid') w hx hy h h')
 obtain ⟨K, BB, M', SS, TT, eV⟩ := tup_lf (lf_reco [45] (VT.mk k b m s t a len cap kid) (VT.mk k' b' m' s' t' a' len' cap' kid'))
 have EV := hide eV
 rw [eV]
 generalize hE2 : (recoT [45] (VT.mk k b m s t a len cap kid) (VT.mk k' b' m' s' t' a' len' cap' kid')).2 = E2 at *
 clear hE2 eV
 clear hin hin' hx hy
 show Calls Tryz.prog 51 #[.string ⟨([45]).toArray⟩, .agg #[.int .i64 k, .bool b, .int .i64 m, .int .i64 s, .string t, .slice a len cap], .agg #[.int .i64 k', .bool b', .int .i64 m', .int .i64 s', .string t', .slice a' len' cap']] w _
 go_enter Tryz.func51, Tryz.ntmps51
 go_wp2_with fail
 generalize (((w.alloc (Obj.cells #[.int .i64 k, .bool b, .int .i64 m, .int .i64 s, .string t, .slice a len cap] 32)).alloc (Obj.cells #[.int .i64 k', .bool b', .int .i64 m', .int .i64 s', .string t', .slice a' len' cap'] 32)).alloc (Obj.cells #[.int .i64 0, .bool false, .int .i64 0, .int .i64 0, .string ⟨#[]⟩, .slice none 0 0] 32)) = V at *
 obtain ⟨X0, Y0, O0, B0, z0⟩ := BT
 clear z0
 obtain ⟨x0, x1, x2, x3, x4, x5, x6⟩ := sixfl X0
 obtain ⟨y0, y1, y2, y3, y4, y5, y6⟩ := sixfl Y0
 refine (unhide CV _ (unhide J0) (unhide K0)).mono ?_
 rintro e w1 ⟨rfl, k1⟩
 have X1 := VT.Six.below X0 k1
 have Y1 := VT.Six.below Y0 k1
 have O1 := Own.below O0 k1
 have B1 := bstep B0 k1
 have J1 := hide ((unhide J0).below k1)
 have K1 := hide ((unhide K0).below k1)
 clear k1 X0 Y0 O0 J0 K0 B0 x0 x1 x2 x3 x4 x5 x6 y0 y1 y2 y3 y4 y5 y6
 obtain ⟨x0, x1, x2, x3, x4, x5, x6⟩ := sixfl X1
 obtain ⟨y0, y1, y2, y3, y4, y5, y6⟩ := sixfl Y1
 rw [unhide EV]
 obtain ⟨u0, t0, t1, t2, t3, t4, t5, f0, f1, f2, f3, f4, f5⟩ := Own.fl O1
 try unfold lfv
 go_wp2_with fail
 exact bodyPost_ret (v := .tuple #[lfv K BB M' SS TT, .int .i64 E2]) zR51lt0t1t2t3t4t5 rfl ⟨rfl, zBL⟩
theorem bin_mul (x y : VT) (w : World) (hx : x.okB 2 = true) (hy : y.okB 2 = true) (hin : x.In w) (hin' : y.In w) :
  Calls Tryz.prog 51 #[.string ⟨([42]).toArray⟩, x.val, y.val] w fun e w' => e = .returned (Tup (recoT [42] x y)) ∧ Below w.heap.size w w' := by
 obtain ⟨k, b, m, s, t, a, len, cap, kid, rfl⟩ := hin.form
 obtain ⟨k', b', m', s', t', a', len', cap', kid', rfl⟩ := hin'.form
 have BT := boxes2 w k b m s t a len cap k' b' m' s' t' a' len' cap'
 have J0 := hide (hin.below BT.2.2.2.1)
 have K0 := hide (hin'.below BT.2.2.2.1)
 have CV := hide (fun w h h' => reckon_any [42] (by simp) (VT.mk k b m s t a len cap kid) (VT.mk k' b' m' s' t' a' len' cap' kid') w hx hy h h')
 obtain ⟨K, BB, M', SS, TT, eV⟩ := tup_lf (lf_reco [42] (VT.mk k b m s t a len cap kid) (VT.mk k' b' m' s' t' a' len' cap' kid'))
 have EV := hide eV
 rw [eV]
 generalize hE2 : (recoT [42] (VT.mk k b m s t a len cap kid) (VT.mk k' b' m' s' t' a' len' cap' kid')).2 = E2 at *
 clear hE2 eV
 clear hin hin' hx hy
 show Calls Tryz.prog 51 #[.string ⟨([42]).toArray⟩, .agg #[.int .i64 k, .bool b, .int .i64 m, .int .i64 s, .string t, .slice a len cap], .agg #[.int .i64 k', .bool b', .int .i64 m', .int .i64 s', .string t', .slice a' len' cap']] w _
 go_enter Tryz.func51, Tryz.ntmps51
 go_wp2_with fail
 generalize (((w.alloc (Obj.cells #[.int .i64 k, .bool b, .int .i64 m, .int .i64 s, .string t, .slice a len cap] 32)).alloc (Obj.cells #[.int .i64 k', .bool b', .int .i64 m', .int .i64 s', .string t', .slice a' len' cap'] 32)).alloc (Obj.cells #[.int .i64 0, .bool false, .int .i64 0, .int .i64 0, .string ⟨#[]⟩, .slice none 0 0] 32)) = V at *
 obtain ⟨X0, Y0, O0, B0, z0⟩ := BT
 clear z0
 obtain ⟨x0, x1, x2, x3, x4, x5, x6⟩ := sixfl X0
 obtain ⟨y0, y1, y2, y3, y4, y5, y6⟩ := sixfl Y0
 refine (unhide CV _ (unhide J0) (unhide K0)).mono ?_
 rintro e w1 ⟨rfl, k1⟩
 have X1 := VT.Six.below X0 k1
 have Y1 := VT.Six.below Y0 k1
 have O1 := Own.below O0 k1
 have B1 := bstep B0 k1
 have J1 := hide ((unhide J0).below k1)
 have K1 := hide ((unhide K0).below k1)
 clear k1 X0 Y0 O0 J0 K0 B0 x0 x1 x2 x3 x4 x5 x6 y0 y1 y2 y3 y4 y5 y6
 obtain ⟨x0, x1, x2, x3, x4, x5, x6⟩ := sixfl X1
 obtain ⟨y0, y1, y2, y3, y4, y5, y6⟩ := sixfl Y1
 rw [unhide EV]
 obtain ⟨u0, t0, t1, t2, t3, t4, t5, f0, f1, f2, f3, f4, f5⟩ := Own.fl O1
 try unfold lfv
 go_wp2_with fail
 exact bodyPost_ret (v := .tuple #[lfv K BB M' SS TT, .int .i64 E2]) zR51lt0t1t2t3t4t5 rfl ⟨rfl, zBL⟩
theorem bin_div (x y : VT) (w : World) (hx : x.okB 2 = true) (hy : y.okB 2 = true) (hin : x.In w) (hin' : y.In w) :
  Calls Tryz.prog 51 #[.string ⟨([47]).toArray⟩, x.val, y.val] w fun e w' => e = .returned (Tup (recoT [47] x y)) ∧ Below w.heap.size w w' := by
 obtain ⟨k, b, m, s, t, a, len, cap, kid, rfl⟩ := hin.form
 obtain ⟨k', b', m', s', t', a', len', cap', kid', rfl⟩ := hin'.form
 have BT := boxes2 w k b m s t a len cap k' b' m' s' t' a' len' cap'
 have J0 := hide (hin.below BT.2.2.2.1)
 have K0 := hide (hin'.below BT.2.2.2.1)
 have CV := hide (fun w h h' => reckon_any [47] (by simp) (VT.mk k b m s t a len cap kid) (VT.mk k' b' m' s' t' a' len' cap' kid') w hx hy h h')
 obtain ⟨K, BB, M', SS, TT, eV⟩ := tup_lf (lf_reco [47] (VT.mk k b m s t a len cap kid) (VT.mk k' b' m' s' t' a' len' cap' kid'))
 have EV := hide eV
 rw [eV]
 generalize hE2 : (recoT [47] (VT.mk k b m s t a len cap kid) (VT.mk k' b' m' s' t' a' len' cap' kid')).2 = E2 at *
 clear hE2 eV
 clear hin hin' hx hy
 show Calls Tryz.prog 51 #[.string ⟨([47]).toArray⟩, .agg #[.int .i64 k, .bool b, .int .i64 m, .int .i64 s, .string t, .slice a len cap], .agg #[.int .i64 k', .bool b', .int .i64 m', .int .i64 s', .string t', .slice a' len' cap']] w _
 go_enter Tryz.func51, Tryz.ntmps51
 go_wp2_with fail
 generalize (((w.alloc (Obj.cells #[.int .i64 k, .bool b, .int .i64 m, .int .i64 s, .string t, .slice a len cap] 32)).alloc (Obj.cells #[.int .i64 k', .bool b', .int .i64 m', .int .i64 s', .string t', .slice a' len' cap'] 32)).alloc (Obj.cells #[.int .i64 0, .bool false, .int .i64 0, .int .i64 0, .string ⟨#[]⟩, .slice none 0 0] 32)) = V at *
 obtain ⟨X0, Y0, O0, B0, z0⟩ := BT
 clear z0
 obtain ⟨x0, x1, x2, x3, x4, x5, x6⟩ := sixfl X0
 obtain ⟨y0, y1, y2, y3, y4, y5, y6⟩ := sixfl Y0
 refine (unhide CV _ (unhide J0) (unhide K0)).mono ?_
 rintro e w1 ⟨rfl, k1⟩
 have X1 := VT.Six.below X0 k1
 have Y1 := VT.Six.below Y0 k1
 have O1 := Own.below O0 k1
 have B1 := bstep B0 k1
 have J1 := hide ((unhide J0).below k1)
 have K1 := hide ((unhide K0).below k1)
 clear k1 X0 Y0 O0 J0 K0 B0 x0 x1 x2 x3 x4 x5 x6 y0 y1 y2 y3 y4 y5 y6
 obtain ⟨x0, x1, x2, x3, x4, x5, x6⟩ := sixfl X1
 obtain ⟨y0, y1, y2, y3, y4, y5, y6⟩ := sixfl Y1
 rw [unhide EV]
 obtain ⟨u0, t0, t1, t2, t3, t4, t5, f0, f1, f2, f3, f4, f5⟩ := Own.fl O1
 try unfold lfv
 go_wp2_with fail
 exact bodyPost_ret (v := .tuple #[lfv K BB M' SS TT, .int .i64 E2]) zR51lt0t1t2t3t4t5 rfl ⟨rfl, zBL⟩
theorem bin_rel (l : List UInt8) (q1 : (l == [97, 110, 100]) = false) (q2 : (l == [111, 114]) = false) (q3 : (l == [43]) = false) (q4 : (l == [45]) = false) (q5 : (l == [42]) = false) (q6 : (l == [47]) = false) (x y : VT) (w : World) (hx : x.okB 2 = true) (hy : y.okB 2 = true) (hin : x.In w) (hin' : y.In w) :
  Calls Tryz.prog 51 #[.string ⟨(l).toArray⟩, x.val, y.val] w fun e w' => e = .returned (Tup (relT l x y, 0)) ∧ Below w.heap.size w w' := by
 obtain ⟨k, b, m, s, t, a, len, cap, kid, rfl⟩ := hin.form
 obtain ⟨k', b', m', s', t', a', len', cap', kid', rfl⟩ := hin'.form
 have BT := boxes2 w k b m s t a len cap k' b' m' s' t' a' len' cap'
 have J0 := hide (hin.below BT.2.2.2.1)
 have K0 := hide (hin'.below BT.2.2.2.1)
 have CV := hide (fun w h h' => rel_any l (VT.mk k b m s t a len cap kid) (VT.mk k' b' m' s' t' a' len' cap' kid') w hx hy h h')
 obtain ⟨K, BB, M', SS, TT, eV⟩ := (lf_rel l (VT.mk k b m s t a len cap kid) (VT.mk k' b' m' s' t' a' len' cap' kid')).val
 have EV := hide eV
 unfold Tup
 rw [eV]
 clear eV
 clear hin hin' hx hy
 show Calls Tryz.prog 51 #[.string ⟨(l).toArray⟩, .agg #[.int .i64 k, .bool b, .int .i64 m, .int .i64 s, .string t, .slice a len cap], .agg #[.int .i64 k', .bool b', .int .i64 m', .int .i64 s', .string t', .slice a' len' cap']] w _
 go_enter Tryz.func51, Tryz.ntmps51
 go_wp2_with fail
 generalize (((w.alloc (Obj.cells #[.int .i64 k, .bool b, .int .i64 m, .int .i64 s, .string t, .slice a len cap] 32)).alloc (Obj.cells #[.int .i64 k', .bool b', .int .i64 m', .int .i64 s', .string t', .slice a' len' cap'] 32)).alloc (Obj.cells #[.int .i64 0, .bool false, .int .i64 0, .int .i64 0, .string ⟨#[]⟩, .slice none 0 0] 32)) = V at *
 obtain ⟨X0, Y0, O0, B0, z0⟩ := BT
 clear z0
 obtain ⟨x0, x1, x2, x3, x4, x5, x6⟩ := sixfl X0
 obtain ⟨y0, y1, y2, y3, y4, y5, y6⟩ := sixfl Y0
 refine (unhide CV _ (unhide J0) (unhide K0)).mono ?_
 rintro e w1 ⟨rfl, k1⟩
 have X1 := VT.Six.below X0 k1
 have Y1 := VT.Six.below Y0 k1
 have O1 := Own.below O0 k1
 have B1 := bstep B0 k1
 have J1 := hide ((unhide J0).below k1)
 have K1 := hide ((unhide K0).below k1)
 clear k1 X0 Y0 O0 J0 K0 B0 x0 x1 x2 x3 x4 x5 x6 y0 y1 y2 y3 y4 y5 y6
 obtain ⟨x0, x1, x2, x3, x4, x5, x6⟩ := sixfl X1
 obtain ⟨y0, y1, y2, y3, y4, y5, y6⟩ := sixfl Y1
 rw [unhide EV]
 obtain ⟨u0, t0, t1, t2, t3, t4, t5, f0, f1, f2, f3, f4, f5⟩ := Own.fl O1
 try unfold lfv
 go_wp2_with fail
 exact bodyPost_ret (v := .tuple #[lfv K BB M' SS TT, .int .i64 0]) zR51lt0t1t2t3t4t5 rfl ⟨rfl, zBL⟩
theorem ebinary_any (l : List UInt8) (x y : VT) (w : World) (hx : x.okB 2 = true) (hy : y.okB 2 = true) (hin : x.In w) (hin' : y.In w) :
  Calls Tryz.prog 51 #[.string ⟨l.toArray⟩, x.val, y.val] w fun e w' => e = .returned (Tup (binT l x y)) ∧ Below w.heap.size w w' := by
 unfold binT
 by_cases h1 : l = [97, 110, 100]
 ·subst h1; rw [if_pos rfl]; exact bin_and x y w hx hy hin hin'
 rw [if_neg h1]
 by_cases h2 : l = [111, 114]
 ·subst h2; rw [if_pos rfl]; exact bin_or x y w hx hy hin hin'
 rw [if_neg h2]
 by_cases h3 : l = [43]
 ·subst h3; rw [if_pos (.inl rfl)]; exact bin_add x y w hx hy hin hin'
 by_cases h4 : l = [45]
 ·subst h4; rw [if_pos (.inr (.inl rfl))]; exact bin_sub x y w hx hy hin hin'
 by_cases h5 : l = [42]
 ·subst h5; rw [if_pos (.inr (.inr (.inl rfl)))]; exact bin_mul x y w hx hy hin hin'
 by_cases h6 : l = [47]
 ·subst h6; rw [if_pos (.inr (.inr (.inr rfl)))]; exact bin_div x y w hx hy hin hin'
 rw [if_neg (by simp [h3, h4, h5, h6])]
 exact bin_rel l (by simpa using h1) (by simpa using h2) (by simpa using h3) (by simpa using h4) (by simpa using h5) (by simpa using h6) x y w hx hy hin hin'
theorem lf_bin (l : List UInt8) (x y : VT) : LF (binT l x y).1 := by
 unfold binT
 repeat (first | exact lf_and _ _ | exact lf_or _ _ | exact lf_reco _ _ _ | exact lf_rel _ _ _ | split)
end Go.Proofs.YtfdimdjmnfdecaaGreat

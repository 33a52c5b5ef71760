/- RE3 RE4 RE5: laid together. -/
import Derived.Test.YtfdimdjmnfdecaaGreatKBF
set_option linter.unusedVariables false
set_option linter.unusedSimpArgs false
set_option maxHeartbeats 8000000
namespace Go.Proofs.YtfdimdjmnfdecaaGreat
open Go.RowKit
section
open VT (leaf mkV)
theorem relE_leaf (l : List UInt8) (x y : VT) : ∃ k b, relT l x y = leaf k b 0 0 ⟨#[]⟩ := by
 unfold relT booV nilV
 repeat' split
 all_goals exact ⟨_, _, rfl⟩
theorem ariE_leaf (l : List UInt8) (m s n t : Int) : ∃ k m' s' e, (if l = [43] then addR m s n t else if l = [45] then subR m s n t else if l = [42] then mulR m s n t else divR m s n t) = (leaf k false m' s' ⟨#[]⟩, e) := by
 have h : ∀ X z, ∃ k m' s' e, fitR X z = (leaf k false m' s' ⟨#[]⟩, e) := fun X z => by
  obtain ⟨k, m', s', h⟩ := rec_leaf (fitM X z) (fitS X z) (fitE X z)
  exact ⟨k, m', s', _, h⟩
 unfold addR subR mulR divR
 repeat' split
 all_goals first | exact h _ _ | exact ⟨0, 0, 0, 0, rfl⟩
theorem catE_two (k : Int) (b : Bool) (m s : Int) (t : ByteArray) (a : Option Addr) (len cap : Nat) (kid : Nat → VT) (b' : Bool) (m' s' : Int) (t' : ByteArray) (a' : Option Addr) (len' cap' : Nat) (kid' : Nat → VT) :
  catT [VT.mk 3 b m s t a len cap kid, VT.mk 3 b' m' s' t' a' len' cap' kid'] = if 16 < (t ++ t').size then (nilV, 3) else (texV (t ++ t'), 0) := by
 have e : catV [VT.mk 3 b m s t a len cap kid, VT.mk 3 b' m' s' t' a' len' cap' kid'] = (t ++ t').data.toList := by
  unfold catV
  simp [tOf, XT.tl]
 unfold catT
 rw [if_neg (by
  rintro (h | h)
  ·cases h
  ·have h' : true = false := h
   cases h'), e]
 have e2 : (t ++ t').data.toList.length = (t ++ t').size := Array.length_toList
 rw [e2]
theorem tex_size {k : Int} {b : Bool} {m s : Int} {t : ByteArray} {a : Option Addr} {len cap : Nat} {kid : Nat → VT} (h : (VT.mk k b m s t a len cap kid).okB 2 = true) (hk : k = 3) : t.size ≤ 16 := by
 subst hk
 have hal : aloneB 3 b m s t len = true := by
  cases hal : aloneB 3 b m s t len
  ·rw [okB_no _ hal] at h; cases h
  ·rfl
 rw [okB_yes _ hal, if_neg (by decide), if_neg (by decide), if_pos rfl] at h
 unfold textB at h
 simp only [Bool.and_eq_true, decide_eq_true_eq] at h
 exact h.1
theorem rbin_and (x y : VT) (w : World) (hx : x.okB 2 = true) (hy : y.okB 2 = true) (hin : x.In w) (hin' : y.In w) :
  Calls Tryz.prog 31 #[.string ⟨([97, 110, 100]).toArray⟩, x.val, y.val] w fun e w' => e = .returned (Tup ((andV x y, 0))) ∧ Below w.heap.size w w' := by
 obtain ⟨k, b, m, s, t, a, len, cap, kid, rfl⟩ := hin.form
 obtain ⟨k', b', m', s', t', a', len', cap', kid', rfl⟩ := hin'.form
 have BT := boxes2 w k b m s t a len cap k' b' m' s' t' a' len' cap'
 have J0 := hide (hin.below BT.2.2.2.1)
 have K0 := hide (hin'.below BT.2.2.2.1)
 show Calls Tryz.prog 31 #[.string ⟨([97, 110, 100]).toArray⟩, .agg #[.int .i64 k, .bool b, .int .i64 m, .int .i64 s, .string t, .slice a len cap], .agg #[.int .i64 k', .bool b', .int .i64 m', .int .i64 s', .string t', .slice a' len' cap']] w _
 clear hin hin' hx hy
 go_enter Tryz.func31, Tryz.ntmps31
 go_wp2_with fail
 generalize (((w.alloc (Obj.cells #[.int .i64 k, .bool b, .int .i64 m, .int .i64 s, .string t, .slice a len cap] 32)).alloc (Obj.cells #[.int .i64 k', .bool b', .int .i64 m', .int .i64 s', .string t', .slice a' len' cap'] 32)).alloc (Obj.cells #[.int .i64 0, .bool false, .int .i64 0, .int .i64 0, .string ⟨#[]⟩, .slice none 0 0] 32)) = V at *
 obtain ⟨X0, Y0, O0, B0, z0⟩ := BT
 clear z0
 obtain ⟨x0, x1, x2, x3, x4, x5, x6⟩ := sixfl X0
 obtain ⟨y0, y1, y2, y3, y4, y5, y6⟩ := sixfl Y0
 go_wp2_with fail
 refine (rand_any _ _ _ _ _ _ _ _ _ _ _ _ _ _ _ _ _).mono ?_
 rintro e w1 ⟨rfl, k1⟩
 have O1 := Own.below O0 k1
 have B1 := bstep B0 k1
 clear k1 O0 B0 X0 Y0 J0 K0 x0 x1 x2 x3 x4 x5 x6 y0 y1 y2 y3 y4 y5 y6
 unfold tval
 obtain ⟨u0, t0, t1, t2, t3, t4, t5, f0, f1, f2, f3, f4, f5⟩ := Own.fl O1
 go_wp2_with fail
 exact bodyPost_ret (v := .tuple #[lfv (andK (unB k b) (unB k' b') (trB k b) (trB k' b')) (andB (unB k b) (unB k' b') (trB k b) (trB k' b')) 0 0 ⟨#[]⟩, .int .i64 0]) zR31lt0t1t2t3t4t5 rfl ⟨rfl, zBL⟩
theorem rbin_or (x y : VT) (w : World) (hx : x.okB 2 = true) (hy : y.okB 2 = true) (hin : x.In w) (hin' : y.In w) :
  Calls Tryz.prog 31 #[.string ⟨([111, 114]).toArray⟩, x.val, y.val] w fun e w' => e = .returned (Tup ((orV x y, 0))) ∧ Below w.heap.size w w' := by
 obtain ⟨k, b, m, s, t, a, len, cap, kid, rfl⟩ := hin.form
 obtain ⟨k', b', m', s', t', a', len', cap', kid', rfl⟩ := hin'.form
 have BT := boxes2 w k b m s t a len cap k' b' m' s' t' a' len' cap'
 have J0 := hide (hin.below BT.2.2.2.1)
 have K0 := hide (hin'.below BT.2.2.2.1)
 show Calls Tryz.prog 31 #[.string ⟨([111, 114]).toArray⟩, .agg #[.int .i64 k, .bool b, .int .i64 m, .int .i64 s, .string t, .slice a len cap], .agg #[.int .i64 k', .bool b', .int .i64 m', .int .i64 s', .string t', .slice a' len' cap']] w _
 clear hin hin' hx hy
 go_enter Tryz.func31, Tryz.ntmps31
 go_wp2_with fail
 generalize (((w.alloc (Obj.cells #[.int .i64 k, .bool b, .int .i64 m, .int .i64 s, .string t, .slice a len cap] 32)).alloc (Obj.cells #[.int .i64 k', .bool b', .int .i64 m', .int .i64 s', .string t', .slice a' len' cap'] 32)).alloc (Obj.cells #[.int .i64 0, .bool false, .int .i64 0, .int .i64 0, .string ⟨#[]⟩, .slice none 0 0] 32)) = V at *
 obtain ⟨X0, Y0, O0, B0, z0⟩ := BT
 clear z0
 obtain ⟨x0, x1, x2, x3, x4, x5, x6⟩ := sixfl X0
 obtain ⟨y0, y1, y2, y3, y4, y5, y6⟩ := sixfl Y0
 go_wp2_with fail
 refine (ror_any _ _ _ _ _ _ _ _ _ _ _ _ _ _ _ _ _).mono ?_
 rintro e w1 ⟨rfl, k1⟩
 have O1 := Own.below O0 k1
 have B1 := bstep B0 k1
 clear k1 O0 B0 X0 Y0 J0 K0 x0 x1 x2 x3 x4 x5 x6 y0 y1 y2 y3 y4 y5 y6
 unfold tval
 obtain ⟨u0, t0, t1, t2, t3, t4, t5, f0, f1, f2, f3, f4, f5⟩ := Own.fl O1
 go_wp2_with fail
 exact bodyPost_ret (v := .tuple #[lfv (orK (trB k b) (trB k' b') (unB k b) (unB k' b')) (orB (trB k b) (trB k' b')) 0 0 ⟨#[]⟩, .int .i64 0]) zR31lt0t1t2t3t4t5 rfl ⟨rfl, zBL⟩
theorem rbin_rel (l : List UInt8) (q1 : (l == [97, 110, 100]) = false) (q2 : (l == [111, 114]) = false) (q3 : (l == [43]) = false) (q4 : (l == [45]) = false) (q5 : (l == [42]) = false) (q6 : (l == [47]) = false) (x y : VT) (w : World) (hx : x.okB 2 = true) (hy : y.okB 2 = true) (hin : x.In w) (hin' : y.In w) :
  Calls Tryz.prog 31 #[.string ⟨(l).toArray⟩, x.val, y.val] w fun e w' => e = .returned (Tup ((relT l x y, 0))) ∧ Below w.heap.size w w' := by
 obtain ⟨k, b, m, s, t, a, len, cap, kid, rfl⟩ := hin.form
 obtain ⟨k', b', m', s', t', a', len', cap', kid', rfl⟩ := hin'.form
 have BT := boxes2 w k b m s t a len cap k' b' m' s' t' a' len' cap'
 have J0 := hide (hin.below BT.2.2.2.1)
 have K0 := hide (hin'.below BT.2.2.2.1)
 show Calls Tryz.prog 31 #[.string ⟨(l).toArray⟩, .agg #[.int .i64 k, .bool b, .int .i64 m, .int .i64 s, .string t, .slice a len cap], .agg #[.int .i64 k', .bool b', .int .i64 m', .int .i64 s', .string t', .slice a' len' cap']] w _
 have RR := hide (fun w h h' => rrel_any l (VT.mk k b m s t a len cap kid) (VT.mk k' b' m' s' t' a' len' cap' kid') w hx hy h h')
 obtain ⟨lk, lb, hr⟩ := relE_leaf l (VT.mk k b m s t a len cap kid) (VT.mk k' b' m' s' t' a' len' cap' kid')
 rw [hr] at RR ⊢
 clear hr
 clear hin hin' hx hy
 go_enter Tryz.func31, Tryz.ntmps31
 go_wp2_with fail
 generalize (((w.alloc (Obj.cells #[.int .i64 k, .bool b, .int .i64 m, .int .i64 s, .string t, .slice a len cap] 32)).alloc (Obj.cells #[.int .i64 k', .bool b', .int .i64 m', .int .i64 s', .string t', .slice a' len' cap'] 32)).alloc (Obj.cells #[.int .i64 0, .bool false, .int .i64 0, .int .i64 0, .string ⟨#[]⟩, .slice none 0 0] 32)) = V at *
 obtain ⟨X0, Y0, O0, B0, z0⟩ := BT
 clear z0
 obtain ⟨x0, x1, x2, x3, x4, x5, x6⟩ := sixfl X0
 obtain ⟨y0, y1, y2, y3, y4, y5, y6⟩ := sixfl Y0
 go_wp2_with fail
 refine (unhide RR _ (unhide J0) (unhide K0)).mono ?_
 rintro e w1 ⟨rfl, k1⟩
 have O1 := Own.below O0 k1
 have B1 := bstep B0 k1
 clear k1 O0 B0 X0 Y0 J0 K0 x0 x1 x2 x3 x4 x5 x6 y0 y1 y2 y3 y4 y5 y6
 unfold leaf
 dsimp only [VT.val]
 obtain ⟨u0, t0, t1, t2, t3, t4, t5, f0, f1, f2, f3, f4, f5⟩ := Own.fl O1
 go_wp2_with fail
 exact bodyPost_ret (v := .tuple #[lfv lk lb 0 0 ⟨#[]⟩, .int .i64 0]) zR31lt0t1t2t3t4t5 rfl ⟨rfl, zBL⟩
theorem rbin_addn (x y : VT) (w : World) (hx : x.okB 2 = true) (hy : y.okB 2 = true) (hin : x.In w) (hin' : y.In w) (hk : kdV x = 2 ∧ kdV y = 2) :
  Calls Tryz.prog 31 #[.string ⟨([43]).toArray⟩, x.val, y.val] w fun e w' => e = .returned (Tup (addR (mOf x) (sOf x) (mOf y) (sOf y))) ∧ Below w.heap.size w w' := by
 obtain ⟨k, b, m, s, t, a, len, cap, kid, rfl⟩ := hin.form
 obtain ⟨k', b', m', s', t', a', len', cap', kid', rfl⟩ := hin'.form
 have BT := boxes2 w k b m s t a len cap k' b' m' s' t' a' len' cap'
 have J0 := hide (hin.below BT.2.2.2.1)
 have K0 := hide (hin'.below BT.2.2.2.1)
 show Calls Tryz.prog 31 #[.string ⟨([43]).toArray⟩, .agg #[.int .i64 k, .bool b, .int .i64 m, .int .i64 s, .string t, .slice a len cap], .agg #[.int .i64 k', .bool b', .int .i64 m', .int .i64 s', .string t', .slice a' len' cap']] w _
 obtain ⟨hk1, hk2⟩ : k = 2 ∧ k' = 2 := hk
 subst hk1 hk2
 have RA := hide (fun w => rarith_any [43] (by decide) m s m' s' w (num_of_ok hx rfl) (num_of_ok hy rfl))
 obtain ⟨lk, lm, ls, le, hr⟩ := ariE_leaf [43] m s m' s'
 rw [hr] at RA
 have hr2 : addR m s m' s' = (leaf lk false lm ls ⟨#[]⟩, le) := hr
 show Calls _ _ _ _ fun e w' => e = .returned (Tup (addR m s m' s')) ∧ _
 rw [hr2]
 clear hr hr2
 clear hin hin' hx hy
 go_enter Tryz.func31, Tryz.ntmps31
 go_wp2_with fail
 generalize (((w.alloc (Obj.cells #[.int .i64 2, .bool b, .int .i64 m, .int .i64 s, .string t, .slice a len cap] 32)).alloc (Obj.cells #[.int .i64 2, .bool b', .int .i64 m', .int .i64 s', .string t', .slice a' len' cap'] 32)).alloc (Obj.cells #[.int .i64 0, .bool false, .int .i64 0, .int .i64 0, .string ⟨#[]⟩, .slice none 0 0] 32)) = V at *
 obtain ⟨X0, Y0, O0, B0, z0⟩ := BT
 clear z0
 obtain ⟨x0, x1, x2, x3, x4, x5, x6⟩ := sixfl X0
 obtain ⟨y0, y1, y2, y3, y4, y5, y6⟩ := sixfl Y0
 go_wp2_with fail
 refine (unhide RA _).mono ?_
 rintro e w1 ⟨rfl, k1⟩
 have O1 := Own.below O0 k1
 have B1 := bstep B0 k1
 clear k1 O0 B0 X0 Y0 J0 K0 x0 x1 x2 x3 x4 x5 x6 y0 y1 y2 y3 y4 y5 y6
 unfold Tup leaf
 dsimp only [VT.val]
 obtain ⟨u0, t0, t1, t2, t3, t4, t5, f0, f1, f2, f3, f4, f5⟩ := Own.fl O1
 go_wp2_with fail
 exact bodyPost_ret (v := .tuple #[lfv lk false lm ls ⟨#[]⟩, .int .i64 le]) zR31lt0t1t2t3t4t5 rfl ⟨rfl, zBL⟩
theorem rbin_subn (x y : VT) (w : World) (hx : x.okB 2 = true) (hy : y.okB 2 = true) (hin : x.In w) (hin' : y.In w) (hk : kdV x = 2 ∧ kdV y = 2) :
  Calls Tryz.prog 31 #[.string ⟨([45]).toArray⟩, x.val, y.val] w fun e w' => e = .returned (Tup (subR (mOf x) (sOf x) (mOf y) (sOf y))) ∧ Below w.heap.size w w' := by
 obtain ⟨k, b, m, s, t, a, len, cap, kid, rfl⟩ := hin.form
 obtain ⟨k', b', m', s', t', a', len', cap', kid', rfl⟩ := hin'.form
 have BT := boxes2 w k b m s t a len cap k' b' m' s' t' a' len' cap'
 have J0 := hide (hin.below BT.2.2.2.1)
 have K0 := hide (hin'.below BT.2.2.2.1)
 show Calls Tryz.prog 31 #[.string ⟨([45]).toArray⟩, .agg #[.int .i64 k, .bool b, .int .i64 m, .int .i64 s, .string t, .slice a len cap], .agg #[.int .i64 k', .bool b', .int .i64 m', .int .i64 s', .string t', .slice a' len' cap']] w _
 obtain ⟨hk1, hk2⟩ : k = 2 ∧ k' = 2 := hk
 subst hk1 hk2
 have RA := hide (fun w => rarith_any [45] (by decide) m s m' s' w (num_of_ok hx rfl) (num_of_ok hy rfl))
 obtain ⟨lk, lm, ls, le, hr⟩ := ariE_leaf [45] m s m' s'
 rw [hr] at RA
 have hr2 : subR m s m' s' = (leaf lk false lm ls ⟨#[]⟩, le) := hr
 show Calls _ _ _ _ fun e w' => e = .returned (Tup (subR m s m' s')) ∧ _
 rw [hr2]
 clear hr hr2
 clear hin hin' hx hy
 go_enter Tryz.func31, Tryz.ntmps31
 go_wp2_with fail
 generalize (((w.alloc (Obj.cells #[.int .i64 2, .bool b, .int .i64 m, .int .i64 s, .string t, .slice a len cap] 32)).alloc (Obj.cells #[.int .i64 2, .bool b', .int .i64 m', .int .i64 s', .string t', .slice a' len' cap'] 32)).alloc (Obj.cells #[.int .i64 0, .bool false, .int .i64 0, .int .i64 0, .string ⟨#[]⟩, .slice none 0 0] 32)) = V at *
 obtain ⟨X0, Y0, O0, B0, z0⟩ := BT
 clear z0
 obtain ⟨x0, x1, x2, x3, x4, x5, x6⟩ := sixfl X0
 obtain ⟨y0, y1, y2, y3, y4, y5, y6⟩ := sixfl Y0
 go_wp2_with fail
 refine (unhide RA _).mono ?_
 rintro e w1 ⟨rfl, k1⟩
 have O1 := Own.below O0 k1
 have B1 := bstep B0 k1
 clear k1 O0 B0 X0 Y0 J0 K0 x0 x1 x2 x3 x4 x5 x6 y0 y1 y2 y3 y4 y5 y6
 unfold Tup leaf
 dsimp only [VT.val]
 obtain ⟨u0, t0, t1, t2, t3, t4, t5, f0, f1, f2, f3, f4, f5⟩ := Own.fl O1
 go_wp2_with fail
 exact bodyPost_ret (v := .tuple #[lfv lk false lm ls ⟨#[]⟩, .int .i64 le]) zR31lt0t1t2t3t4t5 rfl ⟨rfl, zBL⟩
theorem rbin_muln (x y : VT) (w : World) (hx : x.okB 2 = true) (hy : y.okB 2 = true) (hin : x.In w) (hin' : y.In w) (hk : kdV x = 2 ∧ kdV y = 2) :
  Calls Tryz.prog 31 #[.string ⟨([42]).toArray⟩, x.val, y.val] w fun e w' => e = .returned (Tup (mulR (mOf x) (sOf x) (mOf y) (sOf y))) ∧ Below w.heap.size w w' := by
 obtain ⟨k, b, m, s, t, a, len, cap, kid, rfl⟩ := hin.form
 obtain ⟨k', b', m', s', t', a', len', cap', kid', rfl⟩ := hin'.form
 have BT := boxes2 w k b m s t a len cap k' b' m' s' t' a' len' cap'
 have J0 := hide (hin.below BT.2.2.2.1)
 have K0 := hide (hin'.below BT.2.2.2.1)
 show Calls Tryz.prog 31 #[.string ⟨([42]).toArray⟩, .agg #[.int .i64 k, .bool b, .int .i64 m, .int .i64 s, .string t, .slice a len cap], .agg #[.int .i64 k', .bool b', .int .i64 m', .int .i64 s', .string t', .slice a' len' cap']] w _
 obtain ⟨hk1, hk2⟩ : k = 2 ∧ k' = 2 := hk
 subst hk1 hk2
 have RA := hide (fun w => rarith_any [42] (by decide) m s m' s' w (num_of_ok hx rfl) (num_of_ok hy rfl))
 obtain ⟨lk, lm, ls, le, hr⟩ := ariE_leaf [42] m s m' s'
 rw [hr] at RA
 have hr2 : mulR m s m' s' = (leaf lk false lm ls ⟨#[]⟩, le) := hr
 show Calls _ _ _ _ fun e w' => e = .returned (Tup (mulR m s m' s')) ∧ _
 rw [hr2]
 clear hr hr2
 clear hin hin' hx hy
 go_enter Tryz.func31, Tryz.ntmps31
 go_wp2_with fail
 generalize (((w.alloc (Obj.cells #[.int .i64 2, .bool b, .int .i64 m, .int .i64 s, .string t, .slice a len cap] 32)).alloc (Obj.cells #[.int .i64 2, .bool b', .int .i64 m', .int .i64 s', .string t', .slice a' len' cap'] 32)).alloc (Obj.cells #[.int .i64 0, .bool false, .int .i64 0, .int .i64 0, .string ⟨#[]⟩, .slice none 0 0] 32)) = V at *
 obtain ⟨X0, Y0, O0, B0, z0⟩ := BT
 clear z0
 obtain ⟨x0, x1, x2, x3, x4, x5, x6⟩ := sixfl X0
 obtain ⟨y0, y1, y2, y3, y4, y5, y6⟩ := sixfl Y0
 go_wp2_with fail
 refine (unhide RA _).mono ?_
 rintro e w1 ⟨rfl, k1⟩
 have O1 := Own.below O0 k1
 have B1 := bstep B0 k1
 clear k1 O0 B0 X0 Y0 J0 K0 x0 x1 x2 x3 x4 x5 x6 y0 y1 y2 y3 y4 y5 y6
 unfold Tup leaf
 dsimp only [VT.val]
 obtain ⟨u0, t0, t1, t2, t3, t4, t5, f0, f1, f2, f3, f4, f5⟩ := Own.fl O1
 go_wp2_with fail
 exact bodyPost_ret (v := .tuple #[lfv lk false lm ls ⟨#[]⟩, .int .i64 le]) zR31lt0t1t2t3t4t5 rfl ⟨rfl, zBL⟩
theorem rbin_divn (x y : VT) (w : World) (hx : x.okB 2 = true) (hy : y.okB 2 = true) (hin : x.In w) (hin' : y.In w) (hk : kdV x = 2 ∧ kdV y = 2) :
  Calls Tryz.prog 31 #[.string ⟨([47]).toArray⟩, x.val, y.val] w fun e w' => e = .returned (Tup (divR (mOf x) (sOf x) (mOf y) (sOf y))) ∧ Below w.heap.size w w' := by
 obtain ⟨k, b, m, s, t, a, len, cap, kid, rfl⟩ := hin.form
 obtain ⟨k', b', m', s', t', a', len', cap', kid', rfl⟩ := hin'.form
 have BT := boxes2 w k b m s t a len cap k' b' m' s' t' a' len' cap'
 have J0 := hide (hin.below BT.2.2.2.1)
 have K0 := hide (hin'.below BT.2.2.2.1)
 show Calls Tryz.prog 31 #[.string ⟨([47]).toArray⟩, .agg #[.int .i64 k, .bool b, .int .i64 m, .int .i64 s, .string t, .slice a len cap], .agg #[.int .i64 k', .bool b', .int .i64 m', .int .i64 s', .string t', .slice a' len' cap']] w _
 obtain ⟨hk1, hk2⟩ : k = 2 ∧ k' = 2 := hk
 subst hk1 hk2
 have RA := hide (fun w => rarith_any [47] (by decide) m s m' s' w (num_of_ok hx rfl) (num_of_ok hy rfl))
 obtain ⟨lk, lm, ls, le, hr⟩ := ariE_leaf [47] m s m' s'
 rw [hr] at RA
 have hr2 : divR m s m' s' = (leaf lk false lm ls ⟨#[]⟩, le) := hr
 show Calls _ _ _ _ fun e w' => e = .returned (Tup (divR m s m' s')) ∧ _
 rw [hr2]
 clear hr hr2
 clear hin hin' hx hy
 go_enter Tryz.func31, Tryz.ntmps31
 go_wp2_with fail
 generalize (((w.alloc (Obj.cells #[.int .i64 2, .bool b, .int .i64 m, .int .i64 s, .string t, .slice a len cap] 32)).alloc (Obj.cells #[.int .i64 2, .bool b', .int .i64 m', .int .i64 s', .string t', .slice a' len' cap'] 32)).alloc (Obj.cells #[.int .i64 0, .bool false, .int .i64 0, .int .i64 0, .string ⟨#[]⟩, .slice none 0 0] 32)) = V at *
 obtain ⟨X0, Y0, O0, B0, z0⟩ := BT
 clear z0
 obtain ⟨x0, x1, x2, x3, x4, x5, x6⟩ := sixfl X0
 obtain ⟨y0, y1, y2, y3, y4, y5, y6⟩ := sixfl Y0
 go_wp2_with fail
 refine (unhide RA _).mono ?_
 rintro e w1 ⟨rfl, k1⟩
 have O1 := Own.below O0 k1
 have B1 := bstep B0 k1
 clear k1 O0 B0 X0 Y0 J0 K0 x0 x1 x2 x3 x4 x5 x6 y0 y1 y2 y3 y4 y5 y6
 unfold Tup leaf
 dsimp only [VT.val]
 obtain ⟨u0, t0, t1, t2, t3, t4, t5, f0, f1, f2, f3, f4, f5⟩ := Own.fl O1
 go_wp2_with fail
 exact bodyPost_ret (v := .tuple #[lfv lk false lm ls ⟨#[]⟩, .int .i64 le]) zR31lt0t1t2t3t4t5 rfl ⟨rfl, zBL⟩
theorem rbin_textL (x y : VT) (w : World) (hx : x.okB 2 = true) (hy : y.okB 2 = true) (hin : x.In w) (hin' : y.In w) (hk : kdV x = 3 ∧ kdV y = 3) (hs : 16 < (tOf x ++ tOf y).size) :
  Calls Tryz.prog 31 #[.string ⟨([43]).toArray⟩, x.val, y.val] w fun e w' => e = .returned (Tup ((nilV, 3))) ∧ Below w.heap.size w w' := by
 obtain ⟨k, b, m, s, t, a, len, cap, kid, rfl⟩ := hin.form
 obtain ⟨k', b', m', s', t', a', len', cap', kid', rfl⟩ := hin'.form
 have BT := boxes2 w k b m s t a len cap k' b' m' s' t' a' len' cap'
 have J0 := hide (hin.below BT.2.2.2.1)
 have K0 := hide (hin'.below BT.2.2.2.1)
 show Calls Tryz.prog 31 #[.string ⟨([43]).toArray⟩, .agg #[.int .i64 k, .bool b, .int .i64 m, .int .i64 s, .string t, .slice a len cap], .agg #[.int .i64 k', .bool b', .int .i64 m', .int .i64 s', .string t', .slice a' len' cap']] w _
 obtain ⟨hk1, hk2⟩ : k = 3 ∧ k' = 3 := hk
 subst hk1 hk2
 have hs : 16 < (t ++ t').size := hs
 have lt1 : t.size ≤ 16 := tex_size hx rfl
 have lt2 : t'.size ≤ 16 := tex_size hy rfl
 have RT := hide (fun w => rtextE_any (t ++ t') w)
 rw [if_pos hs] at RT
 have jj : (t ++ t').size = t.size + t'.size := ByteArray.size_append
 clear hs
 clear hin hin' hx hy
 go_enter Tryz.func31, Tryz.ntmps31
 go_wp2_with fail
 generalize (((w.alloc (Obj.cells #[.int .i64 3, .bool b, .int .i64 m, .int .i64 s, .string t, .slice a len cap] 32)).alloc (Obj.cells #[.int .i64 3, .bool b', .int .i64 m', .int .i64 s', .string t', .slice a' len' cap'] 32)).alloc (Obj.cells #[.int .i64 0, .bool false, .int .i64 0, .int .i64 0, .string ⟨#[]⟩, .slice none 0 0] 32)) = V at *
 obtain ⟨X0, Y0, O0, B0, z0⟩ := BT
 clear z0
 obtain ⟨x0, x1, x2, x3, x4, x5, x6⟩ := sixfl X0
 obtain ⟨y0, y1, y2, y3, y4, y5, y6⟩ := sixfl Y0
 go_wp2_with fail
 refine (unhide RT _).mono ?_
 rintro e w1 ⟨rfl, k1⟩
 have O1 := Own.below O0 k1
 have B1 := bstep B0 k1
 clear k1 O0 B0 X0 Y0 J0 K0 x0 x1 x2 x3 x4 x5 x6 y0 y1 y2 y3 y4 y5 y6
 unfold Tup nilV leaf
 dsimp only [VT.val]
 obtain ⟨u0, t0, t1, t2, t3, t4, t5, f0, f1, f2, f3, f4, f5⟩ := Own.fl O1
 go_wp2_with fail
 exact bodyPost_ret (v := .tuple #[lfv 0 false 0 0 ⟨#[]⟩, .int .i64 3]) zR31lt0t1t2t3t4t5 rfl ⟨rfl, zBL⟩
theorem rbin_textS (x y : VT) (w : World) (hx : x.okB 2 = true) (hy : y.okB 2 = true) (hin : x.In w) (hin' : y.In w) (hk : kdV x = 3 ∧ kdV y = 3) (hs : ¬ 16 < (tOf x ++ tOf y).size) :
  Calls Tryz.prog 31 #[.string ⟨([43]).toArray⟩, x.val, y.val] w fun e w' => e = .returned (Tup ((texV (tOf x ++ tOf y), 0))) ∧ Below w.heap.size w w' := by
 obtain ⟨k, b, m, s, t, a, len, cap, kid, rfl⟩ := hin.form
 obtain ⟨k', b', m', s', t', a', len', cap', kid', rfl⟩ := hin'.form
 have BT := boxes2 w k b m s t a len cap k' b' m' s' t' a' len' cap'
 have J0 := hide (hin.below BT.2.2.2.1)
 have K0 := hide (hin'.below BT.2.2.2.1)
 show Calls Tryz.prog 31 #[.string ⟨([43]).toArray⟩, .agg #[.int .i64 k, .bool b, .int .i64 m, .int .i64 s, .string t, .slice a len cap], .agg #[.int .i64 k', .bool b', .int .i64 m', .int .i64 s', .string t', .slice a' len' cap']] w _
 obtain ⟨hk1, hk2⟩ : k = 3 ∧ k' = 3 := hk
 subst hk1 hk2
 have hs : ¬ 16 < (t ++ t').size := hs
 have lt1 : t.size ≤ 16 := tex_size hx rfl
 have lt2 : t'.size ≤ 16 := tex_size hy rfl
 have RT := hide (fun w => rtextE_any (t ++ t') w)
 rw [if_neg hs] at RT
 have jj : (t ++ t').size = t.size + t'.size := ByteArray.size_append
 clear hs
 clear hin hin' hx hy
 go_enter Tryz.func31, Tryz.ntmps31
 go_wp2_with fail
 generalize (((w.alloc (Obj.cells #[.int .i64 3, .bool b, .int .i64 m, .int .i64 s, .string t, .slice a len cap] 32)).alloc (Obj.cells #[.int .i64 3, .bool b', .int .i64 m', .int .i64 s', .string t', .slice a' len' cap'] 32)).alloc (Obj.cells #[.int .i64 0, .bool false, .int .i64 0, .int .i64 0, .string ⟨#[]⟩, .slice none 0 0] 32)) = V at *
 obtain ⟨X0, Y0, O0, B0, z0⟩ := BT
 clear z0
 obtain ⟨x0, x1, x2, x3, x4, x5, x6⟩ := sixfl X0
 obtain ⟨y0, y1, y2, y3, y4, y5, y6⟩ := sixfl Y0
 go_wp2_with fail
 refine (unhide RT _).mono ?_
 rintro e w1 ⟨rfl, k1⟩
 have O1 := Own.below O0 k1
 have B1 := bstep B0 k1
 clear k1 O0 B0 X0 Y0 J0 K0 x0 x1 x2 x3 x4 x5 x6 y0 y1 y2 y3 y4 y5 y6
 unfold Tup texV leaf
 dsimp only [VT.val]
 obtain ⟨u0, t0, t1, t2, t3, t4, t5, f0, f1, f2, f3, f4, f5⟩ := Own.fl O1
 go_wp2_with fail
 exact bodyPost_ret (v := .tuple #[lfv 3 false 0 0 (t ++ t'), .int .i64 0]) zR31lt0t1t2t3t4t5 rfl ⟨rfl, zBL⟩
theorem rbin_no43 (x y : VT) (w : World) (hin : x.In w) (hin' : y.In w) (h2 : ¬ (kdV x = 2 ∧ kdV y = 2)) (h3 : ¬ (kdV x = 3 ∧ kdV y = 3)) :
  Calls Tryz.prog 31 #[.string ⟨([43]).toArray⟩, x.val, y.val] w fun e w' => e = .returned (Tup (nilV, 0)) ∧ Below w.heap.size w w' := by
 obtain ⟨k, b, m, s, t, a, len, cap, kid, rfl⟩ := hin.form
 obtain ⟨k', b', m', s', t', a', len', cap', kid', rfl⟩ := hin'.form
 show Calls Tryz.prog 31 #[.string ⟨([43]).toArray⟩, .agg #[.int .i64 k, .bool b, .int .i64 m, .int .i64 s, .string t, .slice a len cap], .agg #[.int .i64 k', .bool b', .int .i64 m', .int .i64 s', .string t', .slice a' len' cap']] w _
 clear hin hin'
 have h2 : ¬ (k = 2 ∧ k' = 2) := h2
 have h3 : ¬ (k = 3 ∧ k' = 3) := h3
 by_cases k2 : k = 2
 ·subst k2
  have e1 : (k' == 2) = false := by simp; omega
  clear h2 h3
  go_enter Tryz.func31, Tryz.ntmps31
  go_wp2_with fail
  exact bodyPost_ret (v := .tuple #[lfv 0 false 0 0 ⟨#[]⟩, .int .i64 0]) zR31l rfl ⟨rfl, zBL⟩
 by_cases k3 : k = 3
 ·subst k3
  have e1 : (k' == 3) = false := by simp; omega
  clear h2 h3
  go_enter Tryz.func31, Tryz.ntmps31
  go_wp2_with fail
  exact bodyPost_ret (v := .tuple #[lfv 0 false 0 0 ⟨#[]⟩, .int .i64 0]) zR31l rfl ⟨rfl, zBL⟩
 have e1 : (k == 2) = false := by simpa using k2
 have e2 : (k == 3) = false := by simpa using k3
 clear h2 h3 k2 k3
 go_enter Tryz.func31, Tryz.ntmps31
 go_wp2_with fail
 exact bodyPost_ret (v := .tuple #[lfv 0 false 0 0 ⟨#[]⟩, .int .i64 0]) zR31l rfl ⟨rfl, zBL⟩
theorem rbin_no45 (x y : VT) (w : World) (hin : x.In w) (hin' : y.In w) (h2 : ¬ (kdV x = 2 ∧ kdV y = 2)) :
  Calls Tryz.prog 31 #[.string ⟨([45]).toArray⟩, x.val, y.val] w fun e w' => e = .returned (Tup (nilV, 0)) ∧ Below w.heap.size w w' := by
 obtain ⟨k, b, m, s, t, a, len, cap, kid, rfl⟩ := hin.form
 obtain ⟨k', b', m', s', t', a', len', cap', kid', rfl⟩ := hin'.form
 show Calls Tryz.prog 31 #[.string ⟨([45]).toArray⟩, .agg #[.int .i64 k, .bool b, .int .i64 m, .int .i64 s, .string t, .slice a len cap], .agg #[.int .i64 k', .bool b', .int .i64 m', .int .i64 s', .string t', .slice a' len' cap']] w _
 clear hin hin'
 have h2 : ¬ (k = 2 ∧ k' = 2) := h2
 by_cases k2 : k = 2
 ·subst k2
  have e1 : (k' == 2) = false := by simp; omega
  clear h2
  go_enter Tryz.func31, Tryz.ntmps31
  go_wp2_with fail
  exact bodyPost_ret (v := .tuple #[lfv 0 false 0 0 ⟨#[]⟩, .int .i64 0]) zR31l rfl ⟨rfl, zBL⟩
 have e1 : (k == 2) = false := by simpa using k2
 clear h2 k2
 go_enter Tryz.func31, Tryz.ntmps31
 go_wp2_with fail
 exact bodyPost_ret (v := .tuple #[lfv 0 false 0 0 ⟨#[]⟩, .int .i64 0]) zR31l rfl ⟨rfl, zBL⟩
theorem rbin_no42 (x y : VT) (w : World) (hin : x.In w) (hin' : y.In w) (h2 : ¬ (kdV x = 2 ∧ kdV y = 2)) :
  Calls Tryz.prog 31 #[.string ⟨([42]).toArray⟩, x.val, y.val] w fun e w' => e = .returned (Tup (nilV, 0)) ∧ Below w.heap.size w w' := by
 obtain ⟨k, b, m, s, t, a, len, cap, kid, rfl⟩ := hin.form
 obtain ⟨k', b', m', s', t', a', len', cap', kid', rfl⟩ := hin'.form
 show Calls Tryz.prog 31 #[.string ⟨([42]).toArray⟩, .agg #[.int .i64 k, .bool b, .int .i64 m, .int .i64 s, .string t, .slice a len cap], .agg #[.int .i64 k', .bool b', .int .i64 m', .int .i64 s', .string t', .slice a' len' cap']] w _
 clear hin hin'
 have h2 : ¬ (k = 2 ∧ k' = 2) := h2
 by_cases k2 : k = 2
 ·subst k2
  have e1 : (k' == 2) = false := by simp; omega
  clear h2
  go_enter Tryz.func31, Tryz.ntmps31
  go_wp2_with fail
  exact bodyPost_ret (v := .tuple #[lfv 0 false 0 0 ⟨#[]⟩, .int .i64 0]) zR31l rfl ⟨rfl, zBL⟩
 have e1 : (k == 2) = false := by simpa using k2
 clear h2 k2
 go_enter Tryz.func31, Tryz.ntmps31
 go_wp2_with fail
 exact bodyPost_ret (v := .tuple #[lfv 0 false 0 0 ⟨#[]⟩, .int .i64 0]) zR31l rfl ⟨rfl, zBL⟩
theorem rbin_no47 (x y : VT) (w : World) (hin : x.In w) (hin' : y.In w) (h2 : ¬ (kdV x = 2 ∧ kdV y = 2)) :
  Calls Tryz.prog 31 #[.string ⟨([47]).toArray⟩, x.val, y.val] w fun e w' => e = .returned (Tup (nilV, 0)) ∧ Below w.heap.size w w' := by
 obtain ⟨k, b, m, s, t, a, len, cap, kid, rfl⟩ := hin.form
 obtain ⟨k', b', m', s', t', a', len', cap', kid', rfl⟩ := hin'.form
 show Calls Tryz.prog 31 #[.string ⟨([47]).toArray⟩, .agg #[.int .i64 k, .bool b, .int .i64 m, .int .i64 s, .string t, .slice a len cap], .agg #[.int .i64 k', .bool b', .int .i64 m', .int .i64 s', .string t', .slice a' len' cap']] w _
 clear hin hin'
 have h2 : ¬ (k = 2 ∧ k' = 2) := h2
 by_cases k2 : k = 2
 ·subst k2
  have e1 : (k' == 2) = false := by simp; omega
  clear h2
  go_enter Tryz.func31, Tryz.ntmps31
  go_wp2_with fail
  exact bodyPost_ret (v := .tuple #[lfv 0 false 0 0 ⟨#[]⟩, .int .i64 0]) zR31l rfl ⟨rfl, zBL⟩
 have e1 : (k == 2) = false := by simpa using k2
 clear h2 k2
 go_enter Tryz.func31, Tryz.ntmps31
 go_wp2_with fail
 exact bodyPost_ret (v := .tuple #[lfv 0 false 0 0 ⟨#[]⟩, .int .i64 0]) zR31l rfl ⟨rfl, zBL⟩
theorem rbin_any (l : List UInt8) (x y : VT) (w : World) (hx : x.okB 2 = true) (hy : y.okB 2 = true) (hin : x.In w) (hin' : y.In w) :
  Calls Tryz.prog 31 #[.string ⟨l.toArray⟩, x.val, y.val] w fun e w' => e = .returned (Tup (binT l x y)) ∧ Below w.heap.size w w' := by
 unfold binT
 by_cases h1 : l = [97, 110, 100]
 ·subst h1; rw [if_pos rfl]; exact rbin_and x y w hx hy hin hin'
 rw [if_neg h1]
 by_cases h2 : l = [111, 114]
 ·subst h2; rw [if_pos rfl]; exact rbin_or x y w hx hy hin hin'
 rw [if_neg h2]
 by_cases h3 : l = [43]
 ·subst h3
  rw [if_pos (.inl rfl)]
  unfold recoT
  by_cases hk : kdV x = 3 ∧ kdV y = 3
  ·rw [if_pos ⟨rfl, hk.1, hk.2⟩]
   obtain ⟨k, b, m, s, t, a, len, cap, kid, rfl⟩ := hin.form
   obtain ⟨k', b', m', s', t', a', len', cap', kid', rfl⟩ := hin'.form
   obtain ⟨hk1, hk2⟩ : k = 3 ∧ k' = 3 := hk
   subst hk1 hk2
   rw [catE_two 3]
   by_cases hs : 16 < (t ++ t').size
   ·rw [if_pos hs]; exact rbin_textL _ _ w hx hy hin hin' ⟨rfl, rfl⟩ hs
   ·rw [if_neg hs]; exact rbin_textS _ _ w hx hy hin hin' ⟨rfl, rfl⟩ hs
  rw [if_neg (fun h => hk ⟨h.2.1, h.2.2⟩)]
  by_cases hn : kdV x = 2 ∧ kdV y = 2
  ·rw [if_pos hn, if_pos rfl]; exact rbin_addn x y w hx hy hin hin' hn
  ·rw [if_neg hn]; exact rbin_no43 x y w hin hin' hn hk
 by_cases h4 : l = [45]
 ·subst h4
  rw [if_pos (.inr (.inl rfl))]
  unfold recoT
  rw [if_neg (by simp)]
  by_cases hn : kdV x = 2 ∧ kdV y = 2
  ·rw [if_pos hn, if_neg (by simp), if_pos rfl]; exact rbin_subn x y w hx hy hin hin' hn
  ·rw [if_neg hn]; exact rbin_no45 x y w hin hin' hn
 by_cases h5 : l = [42]
 ·subst h5
  rw [if_pos (.inr (.inr (.inl rfl)))]
  unfold recoT
  rw [if_neg (by simp)]
  by_cases hn : kdV x = 2 ∧ kdV y = 2
  ·rw [if_pos hn, if_neg (by simp), if_neg (by simp), if_pos rfl]; exact rbin_muln x y w hx hy hin hin' hn
  ·rw [if_neg hn]; exact rbin_no42 x y w hin hin' hn
 by_cases h6 : l = [47]
 ·subst h6
  rw [if_pos (.inr (.inr (.inr rfl)))]
  unfold recoT
  rw [if_neg (by simp)]
  by_cases hn : kdV x = 2 ∧ kdV y = 2
  ·rw [if_pos hn, if_neg (by simp), if_neg (by simp), if_neg (by simp)]; exact rbin_divn x y w hx hy hin hin' hn
  ·rw [if_neg hn]; exact rbin_no47 x y w hin hin' hn
 rw [if_neg (by simp [h3, h4, h5, h6])]
 exact rbin_rel l (by simpa using h1) (by simpa using h2) (by simpa using h3) (by simpa using h4) (by simpa using h5) (by simpa using h6) x y w hx hy hin hin'
end
section
open VT (leaf mkV)
def nestF (f : Nat → Nat) : Nat → Nat
 | 0 => 0
 | n + 1 => max (nestF f n) (f n)
def nestT : VT → Nat
 | .none => 0
 | .mk k _ _ _ _ _ len _ kid => if k = 4 then nestF (fun i => nestT (kid i)) len + 1 else 0
theorem nestF_ge {f : Nat → Nat} {n i : Nat} (h : i < n) : f i ≤ nestF f n := by
 induction n with
 | zero => omega
 | succ n ih =>
  unfold nestF
  by_cases hi : i = n
  ·subst hi; omega
  ·have := ih (by omega); omega
theorem nestF_mono {f : Nat → Nat} {i n : Nat} (h : i ≤ n) : nestF f i ≤ nestF f n := by
 induction n with
 | zero => obtain rfl : i = 0 := by omega
           exact Nat.le_refl _
 | succ n ih =>
  by_cases hi : i = n + 1
  ·subst hi; exact Nat.le_refl _
  ·have := ih (by omega)
   show _ ≤ max (nestF f n) (f n)
   omega
theorem nestF_le {f : Nat → Nat} {n q : Nat} (h : ∀ i, i < n → f i ≤ q) : nestF f n ≤ q := by
 induction n with
 | zero => exact Nat.zero_le _
 | succ n ih =>
  have h1 := ih (fun i hi => h i (by omega))
  have h2 := h n (by omega)
  show max (nestF f n) (f n) ≤ q
  omega
theorem ok_nest (x : VT) : ∀ n, x.okB n = true → nestT x ≤ n := by
 induction x with
 | none => intro n h; exact absurd h (by simp [VT.okB])
 | mk k b m s t a len cap kid ih =>
  intro n h
  have hal : aloneB k b m s t len = true := by
   cases hal : aloneB k b m s t len
   ·rw [okB_no _ hal] at h; cases h
   ·rfl
  rw [okB_yes _ hal] at h
  unfold nestT
  by_cases h4 : k = 4
  ·subst h4
   rw [if_neg (by decide), if_neg (by decide), if_neg (by decide), if_pos rfl] at h
   simp only [Bool.and_eq_true, decide_eq_true_eq, List.all_eq_true, List.mem_range] at h
   obtain ⟨h0, h8, hk⟩ := h
   rw [if_pos rfl]
   have := nestF_le (f := fun i => nestT (kid i)) (n := len) (q := n - 1) (fun i hi => ih i (n - 1) (hk i hi))
   omega
  ·rw [if_neg h4]; exact Nat.zero_le _
theorem nest_ok (x : VT) : ∀ m n, x.okB m = true → nestT x ≤ n → x.okB n = true := by
 induction x with
 | none => intro m n h; exact absurd h (by simp [VT.okB])
 | mk k b mm s t a len cap kid ih =>
  intro m n h hn
  have hal : aloneB k b mm s t len = true := by
   cases hal : aloneB k b mm s t len
   ·rw [okB_no _ hal] at h; cases h
   ·rfl
  rw [okB_yes _ hal] at h ⊢
  by_cases h4 : k = 4
  ·subst h4
   rw [if_neg (by decide), if_neg (by decide), if_neg (by decide), if_pos rfl] at h ⊢
   unfold nestT at hn
   rw [if_pos rfl] at hn
   simp only [Bool.and_eq_true, decide_eq_true_eq, List.all_eq_true, List.mem_range] at h ⊢
   obtain ⟨h0, h8, hk⟩ := h
   exact ⟨by omega, h8, fun i hi => ih i (m - 1) (n - 1) (hk i hi) (by have := nestF_ge (f := fun i => nestT (kid i)) hi; (try dsimp only at this); omega)⟩
  ·by_cases h0 : k = 0 ∨ k = 1
   ·rw [if_pos h0]
   ·rw [if_neg h0] at h ⊢
    by_cases h2 : k = 2
    ·rw [if_pos h2] at h ⊢; exact h
    ·rw [if_neg h2] at h ⊢
     by_cases h3 : k = 3
     ·rw [if_pos h3] at h ⊢; exact h
     ·rw [if_neg h3, if_neg h4] at h; cases h
theorem rnest_any (x : VT) : ∀ (w : World), x.In w → nestT x ≤ 100 →
  Calls Tryz.prog 62 #[x.val] w fun e w' => e = .returned (.int .i64 (nestT x : Nat)) ∧ Below w.heap.size w w' := by
 induction x with
 | none => intro w h; exact absurd h (by simp [VT.In])
 | mk k b m s t a len cap kid ih =>
  intro w hin hb
  have hlm : len ≤ maxLen := by have := hin.1; omega
  unfold maxLen at hlm
  show Calls Tryz.prog 62 #[.agg #[.int .i64 k, .bool b, .int .i64 m, .int .i64 s, .string t, .slice a len cap]] w _
  have X0 := six_new w k b m s t a len cap
  have b0 := below1 w (Obj.cells #[.int .i64 k, .bool b, .int .i64 m, .int .i64 s, .string t, .slice a len cap] 32)
  have hin0 := hin.below b0
  unfold nestT at hb ⊢
  by_cases h4 : k = 4
  ·subst h4
   rw [if_pos rfl] at hb ⊢
   have hbk : ∀ i, i ≤ len → nestF (fun i => nestT (kid i)) i ≤ 100 := fun i hi => by have := nestF_mono (f := fun i => nestT (kid i)) hi; omega
   have hbi : ∀ i, i < len → nestT (kid i) ≤ 100 := fun i hi => by have := nestF_ge (f := fun i => nestT (kid i)) hi; (try dsimp only at this); omega
   have HFS : Hid (∀ i, nestF (fun i => nestT (kid i)) (i + 1) = max (nestF (fun i => nestT (kid i)) i) (nestT (kid i))) := hide (fun i => rfl)
   have HBK := hide hbk
   have HBI := hide hbi
   have IH := hide ih
   generalize hF : nestF (fun i => nestT (kid i)) = F at *
   have hF0 : F 0 = 0 := by rw [← hF]; rfl
   have HF0 := hide hF0
   have h99 : F len ≤ 99 := by omega
   clear ih hin hbk hbi hF hF0 hb
   go_enter Tryz.func62, Tryz.ntmps62
   go_wp2_with fail
   generalize w.alloc (Obj.cells #[.int .i64 4, .bool b, .int .i64 m, .int .i64 s, .string t, .slice a len cap] 32) = V at *
   generalize hB : w.heap.size = B at *
   have HB := hide hB
   clear hB
   go_loopw [3, 4] (fun n i wr => ∃ (j : Nat), j ≤ len ∧ i = .int .i64 j ∧ n = .int .i64 (F j : Nat) ∧ Below V.heap.size V wr) (fun _ i _ => len - (intOf i).toNat)
   case atStart => exact ⟨0, Nat.zero_le _, rfl, by rw [unhide HF0]; rfl, Below.refl _ _⟩
   case round =>
    obtain ⟨j, hj, rfl, rfl, bel⟩ := hrel
    have X1 := VT.Six.below X0 bel
    obtain ⟨x0, x1, x2, x3, x4, x5, x6⟩ := sixfl X1
    have fj := unhide HBK j hj
    by_cases hlt : j < len
    ·obtain ⟨bl, o, k', b', m', s', t', a', len', cap', kid', rfl, hx, six, hk⟩ := hin0.kid hlt
     obtain ⟨s0, s1, s2, s3, s4, s5, s6⟩ := six.below bel
     have nb := unhide HBI j hlt
     have FS := unhide HFS j
     have NK := unhide IH j wr (by rw [hx]; exact hk.below bel) nb
     (try dsimp only at NK nb FS hx)
     rw [hx] at NK
     clear nb
     rw [hx] at FS
     have NKH := hide NK
     generalize nestT (VT.mk k' b' m' s' t' a' len' cap' kid') = N at *
     have FSH := hide FS
     clear NK six hk hx X1 FS hin0
     go_wp2_with fail
     refine (unhide NKH).mono ?_
     rintro e w2 ⟨rfl, k2⟩
     have bel2 := bstep bel k2
     have gm : max (F j : Int) (N : Int) = ((max (F j) N : Nat) : Int) := by omega
     by_cases hm : (F j : Int) < (N : Int)
     ·go_wp2_with fail
      go_roundw
      case rel => exact ⟨j + 1, by omega, by go_num, by rw [unhide FSH], bel2⟩
      case measure => simp [intOf]; omega
     ·go_wp2_with fail
      go_roundw
      case rel => exact ⟨j + 1, by omega, by go_num, by rw [unhide FSH], bel2⟩
      case measure => simp [intOf]; omega
    ·obtain rfl : j = len := by omega
     go_wp2_with fail
     go_ret
     exact ⟨ret_int (by omega), bstep (by rw [unhide HB]; exact b0) bel⟩
  ·rw [if_neg h4] at hb ⊢
   have e1 : (k != 4) = true := by simpa using h4
   clear ih hin hin0 hb h4
   go_enter Tryz.func62, Tryz.ntmps62
   go_wp2_with fail
   go_ret
   exact ⟨rfl, b0⟩
end
section
open VT (leaf mkV)
theorem row_okB (a : Option Addr) (cap : Nat) (l : List VT) (n : Nat) : (rowT a cap l).okB n = (lisV l).okB n := rfl
theorem row_alone (len : Nat) : aloneB 4 false 0 0 ⟨#[]⟩ len = true := by simp [aloneB]
theorem row_ok3 (a : Option Addr) (cap : Nat) (l : List VT) (h8 : l.length ≤ 8) (hok : ∀ v ∈ l, v.okB 2 = true) : (rowT a cap l).okB 3 = true := by
 unfold rowT
 rw [okB_yes _ (row_alone _), if_neg (by decide), if_neg (by decide), if_neg (by decide), if_pos rfl]
 simp only [Bool.and_eq_true, decide_eq_true_eq, List.all_eq_true, List.mem_range]
 refine ⟨by omega, h8, fun i hi => ?_⟩
 rw [getD_eq hi]
 exact hok _ (List.getElem_mem hi)
theorem row_no8 (l : List VT) (h8 : 8 < l.length) (n : Nat) : (lisV l).okB n = false := by
 rw [← row_okB none 0]
 unfold rowT
 rw [okB_yes _ (row_alone _), if_neg (by decide), if_neg (by decide), if_neg (by decide), if_pos rfl, decide_eq_false (show ¬ l.length ≤ 8 by omega), Bool.false_and, Bool.and_false]
theorem rlistE_any (a : Option Addr) (cap : Nat) (l : List VT) (w : World) (hin : (rowT a cap l).In w) (hok : ∀ v ∈ l, v.okB 2 = true) :
  Calls Tryz.prog 33 #[.slice a l.length cap] w fun e w' => e = .returned (if (lisV l).okB 2 = true then .tuple #[(rowT a cap l).val, .int .i64 0] else Tup (nilV, 3)) ∧ Below w.heap.size w w' := by
 have hlm : l.length ≤ maxLen := by have := hin.1; omega
 unfold maxLen at hlm
 by_cases h8 : 8 < l.length
 ·rw [row_no8 l h8, if_neg (by simp)]
  have h8' : 8 < (l.length : Int) := by omega
  clear hin hok h8
  go_enter Tryz.func33, Tryz.ntmps33
  go_wp2_with fail
  exact bodyPost_ret (v := .tuple #[lfv 0 false 0 0 ⟨#[]⟩, .int .i64 3]) (by simp [results, Tryz.results33, go_sem, lfv]) rfl ⟨rfl, zBL⟩
 have h8' : ¬ 8 < (l.length : Int) := by omega
 have ok3 := row_ok3 a cap l (by omega) hok
 have n3 := ok_nest _ _ ok3
 have b0 := below2 w (Obj.cells #[.int .i64 0, .bool false, .int .i64 0, .int .i64 0, .string ⟨#[]⟩, .slice none 0 0] 32) (Obj.cells #[.int .i64 4, .bool false, .int .i64 0, .int .i64 0, .string ⟨#[]⟩, .slice a l.length cap] 32)
 have O0 := (Own.new w 32).below (below1 _ (Obj.cells #[.int .i64 4, .bool false, .int .i64 0, .int .i64 0, .string ⟨#[]⟩, .slice a l.length cap] 32))
 have X0 := six_new (w.alloc (Obj.cells #[.int .i64 0, .bool false, .int .i64 0, .int .i64 0, .string ⟨#[]⟩, .slice none 0 0] 32)) 4 false 0 0 ⟨#[]⟩ a l.length cap
 rw [show (w.alloc (Obj.cells #[.int .i64 0, .bool false, .int .i64 0, .int .i64 0, .string ⟨#[]⟩, .slice none 0 0] 32)).heap.size = w.heap.size + 1 by simp] at X0
 have NK := hide (rnest_any _ _ (hin.below b0) (by omega))
 by_cases h2 : nestT (rowT a cap l) ≤ 2
 ·rw [← row_okB a cap, nest_ok _ 3 2 ok3 h2, if_pos rfl]
  have h2' : ¬ 2 < ((nestT (rowT a cap l) : Nat) : Int) := by omega
  clear hin hok h8 ok3 n3 h2
  generalize nestT (rowT a cap l) = N at *
  go_enter Tryz.func33, Tryz.ntmps33
  go_wp2_with fail
  refine (unhide NK).mono ?_
  rintro e w1 ⟨rfl, k1⟩
  have O1 := O0.below k1
  have X1 := X0.below k1
  have B1 := bstep b0 k1
  clear k1 O0 X0 b0 NK
  obtain ⟨x0, x1, x2, x3, x4, x5, x6⟩ := id X1
  obtain ⟨⟨u0, t0, t1, t2, t3, t4, t5⟩, f0, f1, f2, f3, f4, f5⟩ := id O1
  simp only [Nat.zero_add] at t0 t1 t2 t3 t4 t5 x1 x2 x3 x4 x5 x6
  go_wp2_with fail
  exact bodyPost_ret (v := .tuple #[.agg #[.int .i64 4, .bool false, .int .i64 0, .int .i64 0, .string ⟨#[]⟩, .slice a l.length cap], .int .i64 0]) (by simp [results, Tryz.results33, go_sem, t0, t1, t2, t3, t4, t5]) rfl ⟨rfl, zBL⟩
 ·have hno : (lisV l).okB 2 = false := by
   cases h : (lisV l).okB 2
   ·rfl
   ·rw [← row_okB a cap] at h
    exact absurd (ok_nest _ _ h) h2
  rw [hno, if_neg (by simp)]
  have h2' : 2 < ((nestT (rowT a cap l) : Nat) : Int) := by omega
  clear hin hok h8 ok3 n3 h2 hno X0
  generalize nestT (rowT a cap l) = N at *
  go_enter Tryz.func33, Tryz.ntmps33
  go_wp2_with fail
  refine (unhide NK).mono ?_
  rintro e w1 ⟨rfl, k1⟩
  have O1 := O0.below k1
  have B1 := bstep b0 k1
  clear k1 O0 b0 NK
  obtain ⟨u0, t0, t1, t2, t3, t4, t5, f0, f1, f2, f3, f4, f5⟩ := Own.fl O1
  go_wp2_with fail
  exact bodyPost_ret (v := .tuple #[lfv 0 false 0 0 ⟨#[]⟩, .int .i64 3]) (by simp [results, Tryz.results33, go_sem, lfv, t0, t1, t2, t3, t4, t5]) rfl ⟨rfl, zBL⟩
theorem rone_abs (m s : Int) (w : World) (h : isB m s = true) :
  Calls Tryz.prog 64 #[.string ⟨([97, 98, 115] : List UInt8).toArray⟩, .agg #[.int .i64 m, .int .i64 s]] w fun e w' => e = .returned (Tup (numV (max m (-m)) s, 0)) ∧ Below w.heap.size w w' := by
 have ⟨m1, m2, s1, s2⟩ := isB_bd h
 by_cases hm : m < 0
 ·have wr : IntKind.i64.wrap (-m) = -m := i64_in (by omega) (by omega)
  have O0 := Own.new (w.alloc (Obj.cells #[.int .i64 (-m), .int .i64 s] 23)) 32
  rw [show (w.alloc (Obj.cells #[.int .i64 (-m), .int .i64 s] 23)).heap.size = w.heap.size + 1 by simp] at O0
  have b0 := below2 w (Obj.cells #[.int .i64 (-m), .int .i64 s] 23) (Obj.cells #[.int .i64 0, .bool false, .int .i64 0, .int .i64 0, .string ⟨#[]⟩, .slice none 0 0] 32)
  have RN := hide (fun w => rnumE_any (-m) s 0 w)
  unfold recT at RN
  rw [if_pos rfl] at RN
  rw [show max m (-m) = -m by omega]
  clear h
  go_enter Tryz.func64, Tryz.ntmps64
  go_wp2_with fail
  refine (unhide RN _).mono ?_
  rintro e w1 ⟨rfl, k1⟩
  have O1 := O0.below k1
  have B1 := bstep b0 k1
  clear k1 O0 b0
  obtain ⟨u0, t0, t1, t2, t3, t4, t5, f0, f1, f2, f3, f4, f5⟩ := Own.fl O1
  unfold Tup numV leaf
  dsimp only [VT.val]
  go_wp2_with fail
  exact bodyPost_ret (v := .tuple #[lfv 2 false (-m) s ⟨#[]⟩, .int .i64 0]) zR64lt0t1t2t3t4t5 rfl ⟨rfl, zBL⟩
 ·have O0 := Own.new (w.alloc (Obj.cells #[.int .i64 m, .int .i64 s] 23)) 32
  rw [show (w.alloc (Obj.cells #[.int .i64 m, .int .i64 s] 23)).heap.size = w.heap.size + 1 by simp] at O0
  have b0 := below2 w (Obj.cells #[.int .i64 m, .int .i64 s] 23) (Obj.cells #[.int .i64 0, .bool false, .int .i64 0, .int .i64 0, .string ⟨#[]⟩, .slice none 0 0] 32)
  have RN := hide (fun w => rnumE_any m s 0 w)
  unfold recT at RN
  rw [if_pos rfl] at RN
  rw [show max m (-m) = m by omega]
  clear h
  go_enter Tryz.func64, Tryz.ntmps64
  go_wp2_with fail
  refine (unhide RN _).mono ?_
  rintro e w1 ⟨rfl, k1⟩
  have O1 := O0.below k1
  have B1 := bstep b0 k1
  clear k1 O0 b0
  obtain ⟨u0, t0, t1, t2, t3, t4, t5, f0, f1, f2, f3, f4, f5⟩ := Own.fl O1
  unfold Tup numV leaf
  dsimp only [VT.val]
  go_wp2_with fail
  exact bodyPost_ret (v := .tuple #[lfv 2 false m s ⟨#[]⟩, .int .i64 0]) zR64lt0t1t2t3t4t5 rfl ⟨rfl, zBL⟩
theorem rone_floor (m s : Int) (w : World) (h : isB m s = true) :
  Calls Tryz.prog 64 #[.string ⟨([102, 108, 111, 111, 114] : List UInt8).toArray⟩, .agg #[.int .i64 m, .int .i64 s]] w fun e w' => e = .returned (Tup (numV (m / p10 s.toNat) 0, 0)) ∧ Below w.heap.size w w' := by
 have ⟨m1, m2, s1, s2⟩ := isB_bd h
 have FL := hide (fun w => rflr_any m s w m1 m2 s1 s2)
 generalize m / p10 s.toNat = R at *
 have D0 := (OwnD.new w m s 23).below (below1 _ (Obj.cells #[.int .i64 0, .bool false, .int .i64 0, .int .i64 0, .string ⟨#[]⟩, .slice none 0 0] 32))
 have O0 := Own.new (w.alloc (Obj.cells #[.int .i64 m, .int .i64 s] 23)) 32
 rw [show (w.alloc (Obj.cells #[.int .i64 m, .int .i64 s] 23)).heap.size = w.heap.size + 1 by simp] at O0
 have b0 := below2 w (Obj.cells #[.int .i64 m, .int .i64 s] 23) (Obj.cells #[.int .i64 0, .bool false, .int .i64 0, .int .i64 0, .string ⟨#[]⟩, .slice none 0 0] 32)
 have RN := hide (fun w => rnumE_any R 0 0 w)
 unfold recT at RN
 rw [if_pos rfl] at RN
 clear h
 go_enter Tryz.func64, Tryz.ntmps64
 go_wp2_with fail
 refine (unhide FL _).mono ?_
 rintro e wf ⟨rfl, k0⟩
 have D1 := D0.below k0
 have OF := O0.below k0
 have bf := bstep b0 k0
 clear k0 D0 O0 b0 FL
 have D2 := D1.put R 0
 have OG := putD_own (g := w.heap.size) OF (by omega) (.int .i64 R) (.int .i64 0)
 have bg := putD_below bf (Nat.le_refl w.heap.size) (.int .i64 R) (.int .i64 0)
 obtain ⟨d0, d1, d2, d3, d4⟩ := D1
 go_wp2_with fail
 generalize (wf.setCell ⟨w.heap.size, 0, none⟩ (.int .i64 R)).setCell ⟨w.heap.size, 1, none⟩ (.int .i64 0) = W2 at *
 clear d0 d1 d2 d3 d4 OF bf
 obtain ⟨d0, d1, d2, d3, d4⟩ := id D2
 go_wp2_with fail
 refine (unhide RN _).mono ?_
 rintro e w1 ⟨rfl, k1⟩
 have O1 := OG.below k1
 have B1 := bstep bg k1
 clear k1 OG bg D2 d0 d1 d2 d3 d4
 obtain ⟨u0, t0, t1, t2, t3, t4, t5, f0, f1, f2, f3, f4, f5⟩ := Own.fl O1
 unfold Tup numV leaf
 dsimp only [VT.val]
 go_wp2_with fail
 exact bodyPost_ret (v := .tuple #[lfv 2 false R 0 ⟨#[]⟩, .int .i64 0]) zR64lt0t1t2t3t4t5 rfl ⟨rfl, zBL⟩
theorem rone_ceil (m s : Int) (w : World) (h : isB m s = true) :
  Calls Tryz.prog 64 #[.string ⟨([99, 101, 105, 108] : List UInt8).toArray⟩, .agg #[.int .i64 m, .int .i64 s]] w fun e w' => e = .returned (Tup (numV (-(-m / p10 s.toNat)) 0, 0)) ∧ Below w.heap.size w w' := by
 have ⟨m1, m2, s1, s2⟩ := isB_bd h
 have FL := hide (fun w => rceil_any m s w m1 m2 s1 s2)
 generalize -(-m / p10 s.toNat) = R at *
 have D0 := (OwnD.new w m s 23).below (below1 _ (Obj.cells #[.int .i64 0, .bool false, .int .i64 0, .int .i64 0, .string ⟨#[]⟩, .slice none 0 0] 32))
 have O0 := Own.new (w.alloc (Obj.cells #[.int .i64 m, .int .i64 s] 23)) 32
 rw [show (w.alloc (Obj.cells #[.int .i64 m, .int .i64 s] 23)).heap.size = w.heap.size + 1 by simp] at O0
 have b0 := below2 w (Obj.cells #[.int .i64 m, .int .i64 s] 23) (Obj.cells #[.int .i64 0, .bool false, .int .i64 0, .int .i64 0, .string ⟨#[]⟩, .slice none 0 0] 32)
 have RN := hide (fun w => rnumE_any R 0 0 w)
 unfold recT at RN
 rw [if_pos rfl] at RN
 clear h
 go_enter Tryz.func64, Tryz.ntmps64
 go_wp2_with fail
 refine (unhide FL _).mono ?_
 rintro e wf ⟨rfl, k0⟩
 have D1 := D0.below k0
 have OF := O0.below k0
 have bf := bstep b0 k0
 clear k0 D0 O0 b0 FL
 have D2 := D1.put R 0
 have OG := putD_own (g := w.heap.size) OF (by omega) (.int .i64 R) (.int .i64 0)
 have bg := putD_below bf (Nat.le_refl w.heap.size) (.int .i64 R) (.int .i64 0)
 obtain ⟨d0, d1, d2, d3, d4⟩ := D1
 go_wp2_with fail
 generalize (wf.setCell ⟨w.heap.size, 0, none⟩ (.int .i64 R)).setCell ⟨w.heap.size, 1, none⟩ (.int .i64 0) = W2 at *
 clear d0 d1 d2 d3 d4 OF bf
 obtain ⟨d0, d1, d2, d3, d4⟩ := id D2
 go_wp2_with fail
 refine (unhide RN _).mono ?_
 rintro e w1 ⟨rfl, k1⟩
 have O1 := OG.below k1
 have B1 := bstep bg k1
 clear k1 OG bg D2 d0 d1 d2 d3 d4
 obtain ⟨u0, t0, t1, t2, t3, t4, t5, f0, f1, f2, f3, f4, f5⟩ := Own.fl O1
 unfold Tup numV leaf
 dsimp only [VT.val]
 go_wp2_with fail
 exact bodyPost_ret (v := .tuple #[lfv 2 false R 0 ⟨#[]⟩, .int .i64 0]) zR64lt0t1t2t3t4t5 rfl ⟨rfl, zBL⟩
end
end Go.Proofs.YtfdimdjmnfdecaaGreat

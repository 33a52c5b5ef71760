/- RE1 VRCmp: laid together. -/
import Derived.Test.YtfdimdjmnfdecaaGreatKBC
import Derived.Deep.RegionHeld3
import Derived.Deep.DrawnRows
set_option linter.unusedVariables false
set_option linter.unusedSimpArgs false
set_option maxHeartbeats 8000000
namespace Go.Proofs.YtfdimdjmnfdecaaGreat
open Go.RowKit
section
open VT (leaf mkV)
theorem rnumE_any (m s e0 : Int) (w : World) :
  Calls Tryz.prog 32 #[.agg #[.int .i64 m, .int .i64 s], .int .i64 e0] w fun e w' => e = .returned (Tup (recT m s e0)) ∧ Below w.heap.size w w' := by
 unfold recT
 by_cases h : e0 = 0
 ·subst h
  rw [if_pos rfl]
  go_enter Tryz.func32, Tryz.ntmps32
  go_wp2_with fail
  exact bodyPost_ret (v := .tuple #[lfv 2 false m s ⟨#[]⟩, .int .i64 0]) zR32l rfl ⟨rfl, zBL⟩
 ·rw [if_neg h]
  have e1 : (e0 != 0) = true := by simpa using h
  clear h
  go_enter Tryz.func32, Tryz.ntmps32
  go_wp2_with fail
  exact bodyPost_ret (v := .tuple #[lfv 0 false 0 0 ⟨#[]⟩, .int .i64 e0]) zR32l rfl ⟨rfl, zBL⟩
theorem rwhole_any (n : Int) (w : World) :
  Calls Tryz.prog 68 #[.int .i64 n] w fun e w' => e = .returned (lfv 2 false n 0 ⟨#[]⟩) ∧ Below w.heap.size w w' := by
 go_enter Tryz.func68, Tryz.ntmps68
 go_wp2_with fail
 exact bodyPost_ret (v := lfv 2 false n 0 ⟨#[]⟩) (by simp [results, Tryz.results68, go_sem, lfv]) rfl ⟨rfl, zBL⟩
theorem rtextE_any (t : ByteArray) (w : World) :
  Calls Tryz.prog 61 #[.string t] w fun e w' => e = .returned (Tup (if 16 < t.size then (nilV, 3) else (texV t, 0))) ∧ Below w.heap.size w w' := by
 by_cases h : 16 < t.size
 ·rw [if_pos h]
  have h1 : 16 < (t.size : Int) := by omega
  go_enter Tryz.func61, Tryz.ntmps61
  go_wp2_with fail
  exact bodyPost_ret (v := .tuple #[lfv 0 false 0 0 ⟨#[]⟩, .int .i64 3]) zR61l rfl ⟨rfl, zBL⟩
 ·rw [if_neg h]
  have h1 : ¬ 16 < (t.size : Int) := by omega
  go_enter Tryz.func61, Tryz.ntmps61
  go_wp2_with fail
  exact bodyPost_ret (v := .tuple #[lfv 3 false 0 0 t, .int .i64 0]) zR61l rfl ⟨rfl, zBL⟩
theorem rec_leaf (m s e0 : Int) : ∃ k m' s', recT m s e0 = (leaf k false m' s' ⟨#[]⟩, e0) := by
 unfold recT
 by_cases h : e0 = 0
 ·subst h; exact ⟨2, m, s, rfl⟩
 ·rw [if_neg h]; exact ⟨0, 0, 0, rfl⟩
theorem rmodE_any (m s n t : Int) (w : World) (m1 : -1000000000 ≤ m) (m2 : m ≤ 1000000000) (n1 : -1000000000 ≤ n) (n2 : n ≤ 1000000000) :
  Calls Tryz.prog 67 #[.agg #[.int .i64 m, .int .i64 s], .agg #[.int .i64 n, .int .i64 t]] w fun e w' => e = .returned (modV m s n t).val ∧ Below w.heap.size w w' := by
 have BT := boxM w m s n t
 unfold modV
 by_cases hs : s ≠ 0 ∨ t ≠ 0 ∨ n = 0
 ·rw [if_pos hs]
  by_cases h1 : s = 0
  ·subst h1
   by_cases h2 : t = 0
   ·subst h2
    obtain rfl : n = 0 := by omega
    go_enter Tryz.func67, Tryz.ntmps67
    go_wp2_with fail
    exact bodyPost_ret (v := lfv 0 false 0 0 ⟨#[]⟩) zR67l rfl ⟨rfl, zBL⟩
   ·have e2 : (t != 0) = true := by simpa using h2
    clear hs h2
    go_enter Tryz.func67, Tryz.ntmps67
    go_wp2_with fail
    exact bodyPost_ret (v := lfv 0 false 0 0 ⟨#[]⟩) zR67l rfl ⟨rfl, zBL⟩
  ·have e1 : (s != 0) = true := by simpa using h1
   clear hs h1
   go_enter Tryz.func67, Tryz.ntmps67
   go_wp2_with fail
   exact bodyPost_ret (v := lfv 0 false 0 0 ⟨#[]⟩) zR67l rfl ⟨rfl, zBL⟩
 ·rw [if_neg hs]
  obtain ⟨hs1, hs2, hn⟩ : s = 0 ∧ t = 0 ∧ n ≠ 0 := by omega
  subst hs1 hs2
  have tb := tmod_bd m n hn n1 n2
  have e3 : (n == 0) = false := by simpa using hn
  have e4 : ¬ n = 0 := hn
  have wr : IntKind.i64.wrap (m.tmod n) = m.tmod n := i64_in (by omega) (by omega)
  have HW := hide wr
  clear hs wr
  by_cases hr : m.tmod n ≠ 0 ∧ (decide (m.tmod n < 0) != decide (n < 0)) = true
  ·rw [if_pos hr]
   obtain ⟨h1, h2⟩ := hr
   have e1 : (m.tmod n != 0) = true := by simpa using h1
   clear h1 hn
   by_cases h3 : m.tmod n < 0
   ·have h4 : ¬ n < 0 := by intro h; simp [h3, h] at h2
    clear h2
    go_enter Tryz.func67, Tryz.ntmps67
    go_wp2_with fail
    generalize (((w.alloc (Obj.cells #[.int .i64 m, .int .i64 0] 23)).alloc (Obj.cells #[.int .i64 n, .int .i64 0] 23)).alloc (Obj.cells #[.int .i64 0, .bool false, .int .i64 0, .int .i64 0, .string ⟨#[]⟩, .slice none 0 0] 32)) = V at *
    obtain ⟨X0, Y0, O0, B0⟩ := BT
    refine (rwhole_any _ _).mono ?_
    rintro e w1 ⟨rfl, k1⟩
    have O1 := O0.below k1
    have B1 := bstep B0 k1
    obtain ⟨u0, t0, t1, t2, t3, t4, t5, f0, f1, f2, f3, f4, f5⟩ := Own.fl O1
    unfold lfv
    go_wp2_with fail
    exact bodyPost_ret (v := lfv 2 false (m.tmod n + n) 0 ⟨#[]⟩) zR67lt0t1t2t3t4t5 rfl ⟨rfl, zBL⟩
   ·have h4 : n < 0 := by apply Classical.byContradiction; intro h; simp [h3, h] at h2
    clear h2
    go_enter Tryz.func67, Tryz.ntmps67
    go_wp2_with fail
    generalize (((w.alloc (Obj.cells #[.int .i64 m, .int .i64 0] 23)).alloc (Obj.cells #[.int .i64 n, .int .i64 0] 23)).alloc (Obj.cells #[.int .i64 0, .bool false, .int .i64 0, .int .i64 0, .string ⟨#[]⟩, .slice none 0 0] 32)) = V at *
    obtain ⟨X0, Y0, O0, B0⟩ := BT
    refine (rwhole_any _ _).mono ?_
    rintro e w1 ⟨rfl, k1⟩
    have O1 := O0.below k1
    have B1 := bstep B0 k1
    obtain ⟨u0, t0, t1, t2, t3, t4, t5, f0, f1, f2, f3, f4, f5⟩ := Own.fl O1
    unfold lfv
    go_wp2_with fail
    exact bodyPost_ret (v := lfv 2 false (m.tmod n + n) 0 ⟨#[]⟩) zR67lt0t1t2t3t4t5 rfl ⟨rfl, zBL⟩
  ·rw [if_neg hr]
   by_cases h1 : m.tmod n = 0
   ·have e1 : (m.tmod n != 0) = false := by simpa using h1
    rw [h1] at hr e1 ⊢
    clear hn hr HW tb
    have wr0 : IntKind.i64.wrap 0 = 0 := rfl
    go_enter Tryz.func67, Tryz.ntmps67
    go_wp2_with fail
    generalize (((w.alloc (Obj.cells #[.int .i64 m, .int .i64 0] 23)).alloc (Obj.cells #[.int .i64 n, .int .i64 0] 23)).alloc (Obj.cells #[.int .i64 0, .bool false, .int .i64 0, .int .i64 0, .string ⟨#[]⟩, .slice none 0 0] 32)) = V at *
    obtain ⟨X0, Y0, O0, B0⟩ := BT
    refine (rwhole_any _ _).mono ?_
    rintro e w1 ⟨rfl, k1⟩
    have O1 := O0.below k1
    have B1 := bstep B0 k1
    obtain ⟨u0, t0, t1, t2, t3, t4, t5, f0, f1, f2, f3, f4, f5⟩ := Own.fl O1
    unfold lfv
    go_wp2_with fail
    exact bodyPost_ret (v := lfv 2 false 0 0 ⟨#[]⟩) zR67lt0t1t2t3t4t5 rfl ⟨rfl, zBL⟩
   ·have e1 : (m.tmod n != 0) = true := by simpa using h1
    have h2 : decide (m.tmod n < 0) = decide (n < 0) := by
     apply Classical.byContradiction; intro h; exact hr ⟨h1, by simpa using h⟩
    clear hr h1 hn
    by_cases h3 : m.tmod n < 0
    ·have h4 : n < 0 := by simpa [h3] using h2.symm
     clear h2
     go_enter Tryz.func67, Tryz.ntmps67
     go_wp2_with fail
     generalize (((w.alloc (Obj.cells #[.int .i64 m, .int .i64 0] 23)).alloc (Obj.cells #[.int .i64 n, .int .i64 0] 23)).alloc (Obj.cells #[.int .i64 0, .bool false, .int .i64 0, .int .i64 0, .string ⟨#[]⟩, .slice none 0 0] 32)) = V at *
     obtain ⟨X0, Y0, O0, B0⟩ := BT
     refine (rwhole_any _ _).mono ?_
     rintro e w1 ⟨rfl, k1⟩
     have O1 := O0.below k1
     have B1 := bstep B0 k1
     obtain ⟨u0, t0, t1, t2, t3, t4, t5, f0, f1, f2, f3, f4, f5⟩ := Own.fl O1
     unfold lfv
     go_wp2_with fail
     exact bodyPost_ret (v := lfv 2 false (m.tmod n) 0 ⟨#[]⟩) zR67lt0t1t2t3t4t5 rfl ⟨rfl, zBL⟩
    ·have h4 : ¬ n < 0 := by simpa [h3] using h2.symm
     clear h2
     go_enter Tryz.func67, Tryz.ntmps67
     go_wp2_with fail
     generalize (((w.alloc (Obj.cells #[.int .i64 m, .int .i64 0] 23)).alloc (Obj.cells #[.int .i64 n, .int .i64 0] 23)).alloc (Obj.cells #[.int .i64 0, .bool false, .int .i64 0, .int .i64 0, .string ⟨#[]⟩, .slice none 0 0] 32)) = V at *
     obtain ⟨X0, Y0, O0, B0⟩ := BT
     refine (rwhole_any _ _).mono ?_
     rintro e w1 ⟨rfl, k1⟩
     have O1 := O0.below k1
     have B1 := bstep B0 k1
     obtain ⟨u0, t0, t1, t2, t3, t4, t5, f0, f1, f2, f3, f4, f5⟩ := Own.fl O1
     unfold lfv
     go_wp2_with fail
     exact bodyPost_ret (v := lfv 2 false (m.tmod n) 0 ⟨#[]⟩) zR67lt0t1t2t3t4t5 rfl ⟨rfl, zBL⟩
theorem rarith_add (m s n t : Int) (w : World) (ha : isB m s = true) (hb : isB n t = true) :
  Calls Tryz.prog 60 #[.string ⟨([43]).toArray⟩, .agg #[.int .i64 m, .int .i64 s], .agg #[.int .i64 n, .int .i64 t]] w fun e w' => e = .returned (Tup (addR m s n t)) ∧ Below w.heap.size w w' := by
 have BT := boxM w m s n t
 have C := hide (fun w => radd_eqE m s n t w ha hb)
 unfold addR
 unfold fitR
 generalize fitM (upM m s (max s t) + upM n t (max s t)) (max s t) = fm at *
 generalize fitS (upM m s (max s t) + upM n t (max s t)) (max s t) = fs at *
 generalize fitE (upM m s (max s t) + upM n t (max s t)) (max s t) = fe at *
 obtain ⟨lk, lm, ls, hr⟩ := rec_leaf fm fs fe
 have RN := hide (fun w => rnumE_any fm fs fe w)
 rw [hr] at RN ⊢
 clear hr ha hb
 go_enter Tryz.func60, Tryz.ntmps60
 go_wp2_with fail
 generalize (((w.alloc (Obj.cells #[.int .i64 m, .int .i64 s] 23)).alloc (Obj.cells #[.int .i64 n, .int .i64 t] 23)).alloc (Obj.cells #[.int .i64 0, .bool false, .int .i64 0, .int .i64 0, .string ⟨#[]⟩, .slice none 0 0] 32)) = V at *
 obtain ⟨X0, Y0, O0, B0⟩ := BT
 obtain ⟨x0, x1, x2, x3, x4⟩ := id X0
 obtain ⟨y0, y1, y2, y3, y4⟩ := id Y0
 go_wp2_with fail
 refine (unhide C _).mono ?_
 rintro e w1 ⟨rfl, k1⟩
 have O1 := O0.below k1
 have B1 := bstep B0 k1
 clear k1 O0 B0 x0 x1 x2 x3 x4 y0 y1 y2 y3 y4 X0 Y0 C
 go_wp2_with fail
 refine (unhide RN _).mono ?_
 rintro e w2 ⟨rfl, k2⟩
 have O2 := O1.below k2
 have B2 := bstep B1 k2
 clear k2 O1 B1 RN
 obtain ⟨u0, t0, t1, t2, t3, t4, t5, f0, f1, f2, f3, f4, f5⟩ := Own.fl O2
 unfold Tup leaf
 dsimp only [VT.val]
 go_wp2_with fail
 exact bodyPost_ret (v := .tuple #[lfv lk false lm ls ⟨#[]⟩, .int .i64 fe]) zR60lt0t1t2t3t4t5 rfl ⟨rfl, zBL⟩
theorem rarith_sub (m s n t : Int) (w : World) (ha : isB m s = true) (hb : isB n t = true) :
  Calls Tryz.prog 60 #[.string ⟨([45]).toArray⟩, .agg #[.int .i64 m, .int .i64 s], .agg #[.int .i64 n, .int .i64 t]] w fun e w' => e = .returned (Tup (subR m s n t)) ∧ Below w.heap.size w w' := by
 have BT := boxM w m s n t
 have C := hide (fun w => rsub_eqE m s n t w ha hb)
 unfold subR
 unfold fitR
 generalize fitM (upM m s (max s t) - upM n t (max s t)) (max s t) = fm at *
 generalize fitS (upM m s (max s t) - upM n t (max s t)) (max s t) = fs at *
 generalize fitE (upM m s (max s t) - upM n t (max s t)) (max s t) = fe at *
 obtain ⟨lk, lm, ls, hr⟩ := rec_leaf fm fs fe
 have RN := hide (fun w => rnumE_any fm fs fe w)
 rw [hr] at RN ⊢
 clear hr ha hb
 go_enter Tryz.func60, Tryz.ntmps60
 go_wp2_with fail
 generalize (((w.alloc (Obj.cells #[.int .i64 m, .int .i64 s] 23)).alloc (Obj.cells #[.int .i64 n, .int .i64 t] 23)).alloc (Obj.cells #[.int .i64 0, .bool false, .int .i64 0, .int .i64 0, .string ⟨#[]⟩, .slice none 0 0] 32)) = V at *
 obtain ⟨X0, Y0, O0, B0⟩ := BT
 obtain ⟨x0, x1, x2, x3, x4⟩ := id X0
 obtain ⟨y0, y1, y2, y3, y4⟩ := id Y0
 go_wp2_with fail
 refine (unhide C _).mono ?_
 rintro e w1 ⟨rfl, k1⟩
 have O1 := O0.below k1
 have B1 := bstep B0 k1
 clear k1 O0 B0 x0 x1 x2 x3 x4 y0 y1 y2 y3 y4 X0 Y0 C
 go_wp2_with fail
 refine (unhide RN _).mono ?_
 rintro e w2 ⟨rfl, k2⟩
 have O2 := O1.below k2
 have B2 := bstep B1 k2
 clear k2 O1 B1 RN
 obtain ⟨u0, t0, t1, t2, t3, t4, t5, f0, f1, f2, f3, f4, f5⟩ := Own.fl O2
 unfold Tup leaf
 dsimp only [VT.val]
 go_wp2_with fail
 exact bodyPost_ret (v := .tuple #[lfv lk false lm ls ⟨#[]⟩, .int .i64 fe]) zR60lt0t1t2t3t4t5 rfl ⟨rfl, zBL⟩
theorem rarith_mul (m s n t : Int) (w : World) (ha : isB m s = true) (hb : isB n t = true) :
  Calls Tryz.prog 60 #[.string ⟨([42]).toArray⟩, .agg #[.int .i64 m, .int .i64 s], .agg #[.int .i64 n, .int .i64 t]] w fun e w' => e = .returned (Tup (mulR m s n t)) ∧ Below w.heap.size w w' := by
 have BT := boxM w m s n t
 have C := hide (fun w => rmul_any m s n t w (isB_bd ha).1 (isB_bd ha).2.1 (isB_bd hb).1 (isB_bd hb).2.1 (isB_bd ha).2.2.1 (isB_bd ha).2.2.2 (isB_bd hb).2.2.1 (isB_bd hb).2.2.2)
 unfold mulR
 unfold fitR
 generalize fitM (m * n) (s + t) = fm at *
 generalize fitS (m * n) (s + t) = fs at *
 generalize fitE (m * n) (s + t) = fe at *
 obtain ⟨lk, lm, ls, hr⟩ := rec_leaf fm fs fe
 have RN := hide (fun w => rnumE_any fm fs fe w)
 rw [hr] at RN ⊢
 clear hr ha hb
 go_enter Tryz.func60, Tryz.ntmps60
 go_wp2_with fail
 generalize (((w.alloc (Obj.cells #[.int .i64 m, .int .i64 s] 23)).alloc (Obj.cells #[.int .i64 n, .int .i64 t] 23)).alloc (Obj.cells #[.int .i64 0, .bool false, .int .i64 0, .int .i64 0, .string ⟨#[]⟩, .slice none 0 0] 32)) = V at *
 obtain ⟨X0, Y0, O0, B0⟩ := BT
 obtain ⟨x0, x1, x2, x3, x4⟩ := id X0
 obtain ⟨y0, y1, y2, y3, y4⟩ := id Y0
 go_wp2_with fail
 refine (unhide C _).mono ?_
 rintro e w1 ⟨rfl, k1⟩
 have O1 := O0.below k1
 have B1 := bstep B0 k1
 clear k1 O0 B0 x0 x1 x2 x3 x4 y0 y1 y2 y3 y4 X0 Y0 C
 go_wp2_with fail
 refine (unhide RN _).mono ?_
 rintro e w2 ⟨rfl, k2⟩
 have O2 := O1.below k2
 have B2 := bstep B1 k2
 clear k2 O1 B1 RN
 obtain ⟨u0, t0, t1, t2, t3, t4, t5, f0, f1, f2, f3, f4, f5⟩ := Own.fl O2
 unfold Tup leaf
 dsimp only [VT.val]
 go_wp2_with fail
 exact bodyPost_ret (v := .tuple #[lfv lk false lm ls ⟨#[]⟩, .int .i64 fe]) zR60lt0t1t2t3t4t5 rfl ⟨rfl, zBL⟩
theorem rarith_zero (m s n t : Int) (w : World) (ha : isB m s = true) (hb : isB n t = true) (hn : n = 0) :
  Calls Tryz.prog 60 #[.string ⟨([47]).toArray⟩, .agg #[.int .i64 m, .int .i64 s], .agg #[.int .i64 n, .int .i64 t]] w fun e w' => e = .returned (Tup ((nilV, 0))) ∧ Below w.heap.size w w' := by
 have BT := boxM w m s n t
 subst hn
 go_enter Tryz.func60, Tryz.ntmps60
 go_wp2_with fail
 exact bodyPost_ret (v := .tuple #[lfv 0 false 0 0 ⟨#[]⟩, .int .i64 0]) (by simp [results, Tryz.results60, go_sem, lfv]) rfl ⟨rfl, zBL⟩
theorem rarith_div (m s n t : Int) (w : World) (ha : isB m s = true) (hb : isB n t = true) (hn : n ≠ 0) :
  Calls Tryz.prog 60 #[.string ⟨([47]).toArray⟩, .agg #[.int .i64 m, .int .i64 s], .agg #[.int .i64 n, .int .i64 t]] w fun e w' => e = .returned (Tup (divR m s n t)) ∧ Below w.heap.size w w' := by
 have BT := boxM w m s n t
 have C := hide (fun w => (divQ_eqE m s n t (isB_bd ha).2.2.1 (isB_bd ha).2.2.2 (isB_bd hb).2.2.1 (isB_bd hb).2.2.2) ▸ rdiv_any m s n t w (isB_bd ha).1 (isB_bd ha).2.1 (isB_bd hb).1 (isB_bd hb).2.1 (isB_bd ha).2.2.1 (isB_bd ha).2.2.2 (isB_bd hb).2.2.1 (isB_bd hb).2.2.2 hn)
 have e3 : (n == 0) = false := by simpa using hn
 clear hn
 unfold divR
 rw [if_neg (by simpa using e3)]
 unfold fitR
 generalize fitM (divQ m s n t) 4 = fm at *
 generalize fitS (divQ m s n t) 4 = fs at *
 generalize fitE (divQ m s n t) 4 = fe at *
 obtain ⟨lk, lm, ls, hr⟩ := rec_leaf fm fs fe
 have RN := hide (fun w => rnumE_any fm fs fe w)
 rw [hr] at RN ⊢
 clear hr ha hb
 go_enter Tryz.func60, Tryz.ntmps60
 go_wp2_with fail
 generalize (((w.alloc (Obj.cells #[.int .i64 m, .int .i64 s] 23)).alloc (Obj.cells #[.int .i64 n, .int .i64 t] 23)).alloc (Obj.cells #[.int .i64 0, .bool false, .int .i64 0, .int .i64 0, .string ⟨#[]⟩, .slice none 0 0] 32)) = V at *
 obtain ⟨X0, Y0, O0, B0⟩ := BT
 obtain ⟨x0, x1, x2, x3, x4⟩ := id X0
 obtain ⟨y0, y1, y2, y3, y4⟩ := id Y0
 go_wp2_with fail
 refine (unhide C _).mono ?_
 rintro e w1 ⟨rfl, k1⟩
 have O1 := O0.below k1
 have B1 := bstep B0 k1
 clear k1 O0 B0 x0 x1 x2 x3 x4 y0 y1 y2 y3 y4 X0 Y0 C
 go_wp2_with fail
 refine (unhide RN _).mono ?_
 rintro e w2 ⟨rfl, k2⟩
 have O2 := O1.below k2
 have B2 := bstep B1 k2
 clear k2 O1 B1 RN
 obtain ⟨u0, t0, t1, t2, t3, t4, t5, f0, f1, f2, f3, f4, f5⟩ := Own.fl O2
 unfold Tup leaf
 dsimp only [VT.val]
 go_wp2_with fail
 exact bodyPost_ret (v := .tuple #[lfv lk false lm ls ⟨#[]⟩, .int .i64 fe]) zR60lt0t1t2t3t4t5 rfl ⟨rfl, zBL⟩
theorem rarith_any (l : List UInt8) (hl : l = [43] ∨ l = [45] ∨ l = [42] ∨ l = [47]) (m s n t : Int) (w : World) (ha : isB m s = true) (hb : isB n t = true) :
  Calls Tryz.prog 60 #[.string ⟨l.toArray⟩, .agg #[.int .i64 m, .int .i64 s], .agg #[.int .i64 n, .int .i64 t]] w fun e w' => e = .returned (Tup (if l = [43] then addR m s n t else if l = [45] then subR m s n t else if l = [42] then mulR m s n t else divR m s n t)) ∧ Below w.heap.size w w' := by
 rcases hl with rfl | rfl | rfl | rfl
 ·exact rarith_add m s n t w ha hb
 ·exact rarith_sub m s n t w ha hb
 ·exact rarith_mul m s n t w ha hb
 ·by_cases hn : n = 0
  ·have e : divR m s n t = (nilV, 0) := by unfold divR; rw [if_pos hn]
   show Calls _ _ _ _ fun e w' => e = .returned (Tup (divR m s n t)) ∧ _
   rw [e]
   exact rarith_zero m s n t w ha hb hn
  ·exact rarith_div m s n t w ha hb hn
end
section
attribute [local go_sem ↓] Go.wp_at_zero Go.wp_at_succ
theorem rord_any (x y : Int) (w : World) :
  Calls Tryz.prog 75 #[.int .i64 x, .int .i64 y] w fun e w' => e = .returned (.int .i64 (cmpI x y)) ∧ w' = w := by
 unfold cmpI
 by_cases h1 : x < y
 ·rw [if_pos h1]
  go_enter Tryz.func75, Tryz.ntmps75
  go_wp2
  go_ret
  exact ⟨rfl, rfl⟩
 ·rw [if_neg h1]
  by_cases h2 : y < x
  ·rw [if_pos h2]
   go_enter Tryz.func75, Tryz.ntmps75
   go_wp2
   go_ret
   exact ⟨rfl, rfl⟩
  ·rw [if_neg h2]
   go_enter Tryz.func75, Tryz.ntmps75
   go_wp2
   go_ret
   exact ⟨rfl, rfl⟩
def oneI (b : Bool) : Int := if b = true then 1 else 0
theorem rone_any (b : Bool) (w : World) :
  Calls Tryz.prog 76 #[.bool b] w fun e w' => e = .returned (.int .i64 (oneI b)) ∧ w' = w := by
 cases b
 all_goals
  go_enter Tryz.func76, Tryz.ntmps76
  go_wp2
  go_ret
  exact ⟨rfl, rfl⟩
theorem one_cmp (b b' : Bool) : cmpI (oneI b) (oneI b') = cmpB b b' := by cases b <;> cases b' <;> rfl
def RCmpOf (x : VT) : Prop := ∀ (y : VT) (n n' : Nat) (w : World), x.okB n = true → y.okB n' = true → x.In w → y.In w →
  Calls Tryz.prog 43 #[x.val, y.val] w fun e w' => e = .returned (.int .i64 (x.cmp y)) ∧ Below w.heap.size w w'
theorem text_cmp (t t' : ByteArray) : (Op.bytesLess t.toList t'.toList = true ∧ cmpS t t' = -1) ∨ (Op.bytesLess t.toList t'.toList = false ∧ cmpS t t' = oneI !(Op.bytesLess t.toList t'.toList || t.toList == t'.toList)) := by
 have e := cb_less t.data.toList t'.data.toList
 rw [← ByteArray.toList_eq, ← ByteArray.toList_eq] at e
 have e2 : cmpS t t' = Lib.compareBytes t.toList t'.toList := by unfold cmpS; rw [ByteArray.toList_eq, ByteArray.toList_eq]
 rw [e2]
 have bd := cb_bd t.toList t'.toList
 by_cases h : Lib.compareBytes t.toList t'.toList = -1
 ·exact Or.inl ⟨by rw [e]; simpa using h, h⟩
 ·refine Or.inr ⟨by rw [e]; simpa using h, ?_⟩
  rw [e, decide_eq_false h]
  by_cases h2 : t.toList = t'.toList
  ·rw [h2, cb_self]; simp [oneI]
  ·have h3 : Lib.compareBytes t.toList t'.toList ≠ 0 := fun h => h2 (cb_zero _ _ h)
   have : (t.toList == t'.toList) = false := by simpa using h2
   rw [this]
   simp [oneI]; omega
theorem rCmp_any (x : VT) : RCmpOf x := by
 induction x with
 | none => intro y n n' w hx; exact absurd hx (by simp [VT.okB])
 | mk k b m s t a len cap kid ih =>
  intro y n n' w hx hy hin hin'
  cases y with
  | none => exact absurd hy (by simp [VT.okB])
  | mk k' b' m' s' t' a' len' cap' kid' =>
   show Calls Tryz.prog 43 #[.agg #[.int .i64 k, .bool b, .int .i64 m, .int .i64 s, .string t, .slice a len cap], .agg #[.int .i64 k', .bool b', .int .i64 m', .int .i64 s', .string t', .slice a' len' cap']] w _
   have b0 := below2 w (Obj.cells #[.int .i64 k, .bool b, .int .i64 m, .int .i64 s, .string t, .slice a len cap] 32) (Obj.cells #[.int .i64 k', .bool b', .int .i64 m', .int .i64 s', .string t', .slice a' len' cap'] 32)
   unfold VT.cmp
   by_cases hk : k = k'
   ·subst hk
    rw [if_neg (fun h => h rfl)]
    obtain ⟨al, hkk⟩ := okB_kind hx
    obtain ⟨al', hkk'⟩ := okB_kind hy
    by_cases k1 : k = 1
    ·subst k1
     rw [if_pos rfl, ← one_cmp]
     clear ih hin hin' al al' hx hy hkk hkk'
     go_enter Tryz.func43, Tryz.ntmps43
     go_wp2_with fail
     go_quiet (first | (go_at_call_of 76 ([.bool b] : List Value); exact Calls.quiet_of_same (rone_any b _)) | (go_at_call_of 76 ([.bool b'] : List Value); exact Calls.quiet_of_same (rone_any b' _)) | (go_at_call 75; exact Calls.quiet_of_same (rord_any _ _ _)))
     go_wp2_with fail
     go_ret
     exact ⟨rfl, below_drewN b0 _⟩
    by_cases k2 : k = 2
    ·subst k2
     have hd : isB m s = true := by
      rcases hkk with h | h | ⟨_, h⟩ | h | h
      ·omega
      ·omega
      ·exact h
      ·omega
      ·omega
     have hd' : isB m' s' = true := by
      rcases hkk' with h | h | ⟨_, h⟩ | h | h
      ·omega
      ·omega
      ·exact h
      ·omega
      ·omega
     rw [if_neg (by omega), if_pos rfl]
     have ⟨m1, m2, s1, s2⟩ := isB_bd hd
     have ⟨n1, n2, t1, t2⟩ := isB_bd hd'
     have C := hide (fun w => rcmp_any m s m' s' w m1 m2 n1 n2 s1 s2 t1 t2)
     clear ih hin hin' al al' hx hy hkk hkk' hd hd' m1 m2 s1 s2 n1 n2 t1 t2
     go_enter Tryz.func43, Tryz.ntmps43
     go_wp2_with fail
     refine (unhide C _).mono ?_
     rintro e w1 ⟨rfl, k1⟩
     go_wp2_with fail
     go_ret
     exact ⟨rfl, bstep b0 k1⟩
    by_cases k3 : k = 3
    ·subst k3
     rw [if_neg (by omega), if_neg (by omega), if_pos rfl]
     clear ih hin hin' al al' hx hy hkk hkk' k1 k2
     rcases text_cmp t t' with ⟨hl, hc⟩ | ⟨hl, hc⟩
     ·rw [hc]
      clear hc
      go_enter Tryz.func43, Tryz.ntmps43
      go_wp2_with fail
      go_ret
      exact ⟨rfl, b0⟩
     ·have HC := hide hc
      clear hc
      go_enter Tryz.func43, Tryz.ntmps43
      go_wp2_with fail
      refine (rone_any _ _).mono ?_
      rintro e w1 ⟨rfl, rfl⟩
      go_wp2_with fail
      go_ret
      exact ⟨ret_int (by rw [unhide HC, hl]; simp), b0⟩
    rw [if_neg k1, if_neg k2, if_neg k3]
    have okl : len ≤ 8 ∧ ∀ i, i < len → (kid i).okB (n - 1) = true := by
     by_cases k4 : k = 4
     ·subst k4; exact okB_list hx
     ·have l0 := (alone_t al).2.2.2 k4
      exact ⟨by omega, fun i hi => absurd hi (by omega)⟩
    have okl' : len' ≤ 8 ∧ ∀ i, i < len' → (kid' i).okB (n' - 1) = true := by
     by_cases k4 : k = 4
     ·subst k4; exact okB_list hy
     ·have l0 := (alone_t al').2.2.2 k4
      exact ⟨by omega, fun i hi => absurd hi (by omega)⟩
    obtain ⟨hl8, ok⟩ := okl
    obtain ⟨hl8', ok'⟩ := okl'
    have e1 : (k == 1) = false := by simpa using k1
    have e2 : (k == 2) = false := by simpa using k2
    have e3 : (k == 3) = false := by simpa using k3
    clear k1 k2 k3 hkk hkk' al al' hx hy
    generalize hR : lexF (fun i => (kid i).cmp (kid' i)) (cmpI len len') (min len len') = R
    have HR := hide hR
    clear hR
    go_enter Tryz.func43, Tryz.ntmps43
    go_wp2_with fail
    have hin1 := hin.below b0
    have hin1' := hin'.below b0
    have hz : w.heap.size + 1 < ((w.alloc (Obj.cells #[.int .i64 k, .bool b, .int .i64 m, .int .i64 s, .string t, .slice a len cap] 32)).alloc (Obj.cells #[.int .i64 k, .bool b', .int .i64 m', .int .i64 s', .string t', .slice a' len' cap'] 32)).heap.size := by simp
    have hbox : ((w.alloc (Obj.cells #[.int .i64 k, .bool b, .int .i64 m, .int .i64 s, .string t, .slice a len cap] 32)).alloc (Obj.cells #[.int .i64 k, .bool b', .int .i64 m', .int .i64 s', .string t', .slice a' len' cap'] 32)).cell? ⟨w.heap.size, 5, none⟩ = some (.slice a len cap) := by go_simp
    have hbox' : ((w.alloc (Obj.cells #[.int .i64 k, .bool b, .int .i64 m, .int .i64 s, .string t, .slice a len cap] 32)).alloc (Obj.cells #[.int .i64 k, .bool b', .int .i64 m', .int .i64 s', .string t', .slice a' len' cap'] 32)).cell? ⟨w.heap.size + 1, 5, none⟩ = some (.slice a' len' cap') := by go_simp
    generalize hW : ((w.alloc (Obj.cells #[.int .i64 k, .bool b, .int .i64 m, .int .i64 s, .string t, .slice a len cap] 32)).alloc (Obj.cells #[.int .i64 k, .bool b', .int .i64 m', .int .i64 s', .string t', .slice a' len' cap'] 32)) = W at *
    clear hW hin hin'
    have B0 := hide b0
    clear b0
    generalize hB : w.heap.size = B at *
    have HB := hide hB
    clear hB
    go_loopw [5] (fun i wr => ∃ (j : Nat), j ≤ len ∧ j ≤ len' ∧ i = .int .i64 j ∧ Hid (∀ i, i < j → (kid i).cmp (kid' i) = 0) ∧ Below W.heap.size W wr) (fun i _ => len - (intOf i).toNat)
    case atStart => exact ⟨0, Nat.zero_le _, Nat.zero_le _, rfl, hide (fun i hi => absurd hi (Nat.not_lt_zero _)), Below.refl _ _⟩
    case round =>
     obtain ⟨j, hj, hj', rfl, HA, bel⟩ := hrel
     have zz := bel.size
     have hb := ((bcell bel).1 B 5 (by omega)).trans hbox
     have hb' := ((bcell bel).1 (B + 1) 5 (by omega)).trans hbox'
     by_cases hboth : j < len ∧ j < len'
     ·obtain ⟨hlt, hlt'⟩ := hboth
      obtain ⟨bl, o, kp, bp, mp, sp, tp, ap, lenp, capp, kidp, rfl, hx, six, hk⟩ := hin1.kid hlt
      obtain ⟨bl', o', kq, bq, mq, sq, tq, aq, lenq, capq, kidq, rfl, hy, six', hk'⟩ := hin1'.kid hlt'
      have ihj := fun w => ih j (kid' j) (n - 1) (n' - 1) w (ok j hlt) (ok' j hlt')
      rw [hx, hy] at ihj
      obtain ⟨s0, s1, s2, s3, s4, s5, s6⟩ := six.below bel
      obtain ⟨r0, r1, r2, r3, r4, r5, r6⟩ := six'.below bel
      have HK := hide (hk.below bel)
      have HK' := hide (hk'.below bel)
      have IH := hide ihj
      have HX := hide hx
      have HY := hide hy
      clear six six' hk hk' ih ihj hin1 hin1' hx hy ok ok'
      have S0 : Hid (Below wr.heap.size wr wr.drew ∧ wr.drew.cell? ⟨B, 5, none⟩ = some (.slice (some ⟨bl, o, none⟩) len cap) ∧ wr.drew.cell? ⟨B + 1, 5, none⟩ = some (.slice (some ⟨bl', o', none⟩) len' cap') ∧ wr.drew.cell? ⟨bl, o + j * 6, none⟩ = some (.int .i64 kp) ∧ wr.drew.cell? ⟨bl, o + j * 6 + 1, none⟩ = some (.bool bp) ∧ wr.drew.cell? ⟨bl, o + j * 6 + 2, none⟩ = some (.int .i64 mp) ∧ wr.drew.cell? ⟨bl, o + j * 6 + 3, none⟩ = some (.int .i64 sp) ∧ wr.drew.cell? ⟨bl, o + j * 6 + 4, none⟩ = some (.string tp) ∧ wr.drew.cell? ⟨bl, o + j * 6 + 5, none⟩ = some (.slice ap lenp capp) ∧ wr.drew.cell? ⟨bl', o' + j * 6, none⟩ = some (.int .i64 kq) ∧ wr.drew.cell? ⟨bl', o' + j * 6 + 1, none⟩ = some (.bool bq) ∧ wr.drew.cell? ⟨bl', o' + j * 6 + 2, none⟩ = some (.int .i64 mq) ∧ wr.drew.cell? ⟨bl', o' + j * 6 + 3, none⟩ = some (.int .i64 sq) ∧ wr.drew.cell? ⟨bl', o' + j * 6 + 4, none⟩ = some (.string tq) ∧ wr.drew.cell? ⟨bl', o' + j * 6 + 5, none⟩ = some (.slice aq lenq capq)) := ⟨(Below.refl _ _).drew, hb, hb', s1, s2, s3, s4, s5, s6, r1, r2, r3, r4, r5, r6⟩
      have SK : Hid (∀ x w', (Below wr.heap.size wr x ∧ x.cell? ⟨B, 5, none⟩ = some (.slice (some ⟨bl, o, none⟩) len cap) ∧ x.cell? ⟨B + 1, 5, none⟩ = some (.slice (some ⟨bl', o', none⟩) len' cap') ∧ x.cell? ⟨bl, o + j * 6, none⟩ = some (.int .i64 kp) ∧ x.cell? ⟨bl, o + j * 6 + 1, none⟩ = some (.bool bp) ∧ x.cell? ⟨bl, o + j * 6 + 2, none⟩ = some (.int .i64 mp) ∧ x.cell? ⟨bl, o + j * 6 + 3, none⟩ = some (.int .i64 sp) ∧ x.cell? ⟨bl, o + j * 6 + 4, none⟩ = some (.string tp) ∧ x.cell? ⟨bl, o + j * 6 + 5, none⟩ = some (.slice ap lenp capp) ∧ x.cell? ⟨bl', o' + j * 6, none⟩ = some (.int .i64 kq) ∧ x.cell? ⟨bl', o' + j * 6 + 1, none⟩ = some (.bool bq) ∧ x.cell? ⟨bl', o' + j * 6 + 2, none⟩ = some (.int .i64 mq) ∧ x.cell? ⟨bl', o' + j * 6 + 3, none⟩ = some (.int .i64 sq) ∧ x.cell? ⟨bl', o' + j * 6 + 4, none⟩ = some (.string tq) ∧ x.cell? ⟨bl', o' + j * 6 + 5, none⟩ = some (.slice aq lenq capq)) → Below x.heap.size x w' → (Below wr.heap.size wr w' ∧ w'.cell? ⟨B, 5, none⟩ = some (.slice (some ⟨bl, o, none⟩) len cap) ∧ w'.cell? ⟨B + 1, 5, none⟩ = some (.slice (some ⟨bl', o', none⟩) len' cap') ∧ w'.cell? ⟨bl, o + j * 6, none⟩ = some (.int .i64 kp) ∧ w'.cell? ⟨bl, o + j * 6 + 1, none⟩ = some (.bool bp) ∧ w'.cell? ⟨bl, o + j * 6 + 2, none⟩ = some (.int .i64 mp) ∧ w'.cell? ⟨bl, o + j * 6 + 3, none⟩ = some (.int .i64 sp) ∧ w'.cell? ⟨bl, o + j * 6 + 4, none⟩ = some (.string tp) ∧ w'.cell? ⟨bl, o + j * 6 + 5, none⟩ = some (.slice ap lenp capp) ∧ w'.cell? ⟨bl', o' + j * 6, none⟩ = some (.int .i64 kq) ∧ w'.cell? ⟨bl', o' + j * 6 + 1, none⟩ = some (.bool bq) ∧ w'.cell? ⟨bl', o' + j * 6 + 2, none⟩ = some (.int .i64 mq) ∧ w'.cell? ⟨bl', o' + j * 6 + 3, none⟩ = some (.int .i64 sq) ∧ w'.cell? ⟨bl', o' + j * 6 + 4, none⟩ = some (.string tq) ∧ w'.cell? ⟨bl', o' + j * 6 + 5, none⟩ = some (.slice aq lenq capq))) := by
       rintro x w' ⟨h0, h1, h2, h3, h4, h5, h6, h7, h8, h9, h10, h11, h12, h13, h14⟩ kk
       have z0 := h0.size
       exact ⟨bstep h0 kk, kcell kk (by omega) h1, kcell kk (by omega) h2, kcell kk (by omega) h3, kcell kk (by omega) h4, kcell kk (by omega) h5, kcell kk (by omega) h6, kcell kk (by omega) h7, kcell kk (by omega) h8, kcell kk (by omega) h9, kcell kk (by omega) h10, kcell kk (by omega) h11, kcell kk (by omega) h12, kcell kk (by omega) h13, kcell kk (by omega) h14⟩
      by_cases hc : (kid j).cmp (kid' j) = 0
      ·have HC := hide hc
       rw [unhide HX, unhide HY] at hc
       have HOK := hide hc
       clear hc
       go_wp2_with fail
       go_region_held3 (fun w' => Below wr.heap.size wr w' ∧ w'.cell? ⟨B, 5, none⟩ = some (.slice (some ⟨bl, o, none⟩) len cap) ∧ w'.cell? ⟨B + 1, 5, none⟩ = some (.slice (some ⟨bl', o', none⟩) len' cap') ∧ w'.cell? ⟨bl, o + j * 6, none⟩ = some (.int .i64 kp) ∧ w'.cell? ⟨bl, o + j * 6 + 1, none⟩ = some (.bool bp) ∧ w'.cell? ⟨bl, o + j * 6 + 2, none⟩ = some (.int .i64 mp) ∧ w'.cell? ⟨bl, o + j * 6 + 3, none⟩ = some (.int .i64 sp) ∧ w'.cell? ⟨bl, o + j * 6 + 4, none⟩ = some (.string tp) ∧ w'.cell? ⟨bl, o + j * 6 + 5, none⟩ = some (.slice ap lenp capp) ∧ w'.cell? ⟨bl', o' + j * 6, none⟩ = some (.int .i64 kq) ∧ w'.cell? ⟨bl', o' + j * 6 + 1, none⟩ = some (.bool bq) ∧ w'.cell? ⟨bl', o' + j * 6 + 2, none⟩ = some (.int .i64 mq) ∧ w'.cell? ⟨bl', o' + j * 6 + 3, none⟩ = some (.int .i64 sq) ∧ w'.cell? ⟨bl', o' + j * 6 + 4, none⟩ = some (.string tq) ∧ w'.cell? ⟨bl', o' + j * 6 + 5, none⟩ = some (.slice aq lenq capq))
        (first | exact unhide S0 | assumption | exact unhide SK _ _ (by assumption) k4)
        ((go_at_call 43; refine (unhide IH _ ?_ ?_).mono ?_; exact (unhide HK).below (And.left (by assumption)); exact (unhide HK').below (And.left (by assumption)); rintro e w4 ⟨rfl, k4⟩; rw [unhide HOK]))
       all_goals
        go_wp2_with fail
        go_roundw
        case rel =>
         refine ⟨j + 1, by omega, by omega, by go_num, hide (fun i hi => ?_), bstep bel (And.left (by assumption))⟩
         by_cases hij : i = j
         ·subst hij; exact unhide HC
         ·exact unhide HA i (by omega)
        case measure => simp [intOf]; omega
      ·have FIN := hide (lex_hit (f := fun i => (kid i).cmp (kid' i)) (cmpI len len') (n := min len len') (by omega) (unhide HA) hc)
       rw [unhide HX, unhide HY] at hc
       generalize hq : (VT.mk kp bp mp sp tp ap lenp capp kidp).cmp (VT.mk kq bq mq sq tq aq lenq capq kidq) = c at hc IH
       have HQ := hide hq
       have hc' : (c == 0) = false := by simpa using hc
       have hc2 : (c != 0) = true := by simpa using hc
       clear hc hq
       go_wp2_with fail
       go_region_held3 (fun w' => Below wr.heap.size wr w' ∧ w'.cell? ⟨B, 5, none⟩ = some (.slice (some ⟨bl, o, none⟩) len cap) ∧ w'.cell? ⟨B + 1, 5, none⟩ = some (.slice (some ⟨bl', o', none⟩) len' cap') ∧ w'.cell? ⟨bl, o + j * 6, none⟩ = some (.int .i64 kp) ∧ w'.cell? ⟨bl, o + j * 6 + 1, none⟩ = some (.bool bp) ∧ w'.cell? ⟨bl, o + j * 6 + 2, none⟩ = some (.int .i64 mp) ∧ w'.cell? ⟨bl, o + j * 6 + 3, none⟩ = some (.int .i64 sp) ∧ w'.cell? ⟨bl, o + j * 6 + 4, none⟩ = some (.string tp) ∧ w'.cell? ⟨bl, o + j * 6 + 5, none⟩ = some (.slice ap lenp capp) ∧ w'.cell? ⟨bl', o' + j * 6, none⟩ = some (.int .i64 kq) ∧ w'.cell? ⟨bl', o' + j * 6 + 1, none⟩ = some (.bool bq) ∧ w'.cell? ⟨bl', o' + j * 6 + 2, none⟩ = some (.int .i64 mq) ∧ w'.cell? ⟨bl', o' + j * 6 + 3, none⟩ = some (.int .i64 sq) ∧ w'.cell? ⟨bl', o' + j * 6 + 4, none⟩ = some (.string tq) ∧ w'.cell? ⟨bl', o' + j * 6 + 5, none⟩ = some (.slice aq lenq capq))
        (first | exact unhide S0 | assumption | exact unhide SK _ _ (by assumption) k4)
        ((go_at_call 43; refine (unhide IH _ ?_ ?_).mono ?_; exact (unhide HK).below (And.left (by assumption)); exact (unhide HK').below (And.left (by assumption)); rintro e w4 ⟨rfl, k4⟩))
       all_goals
        go_wp2_with fail
        go_ret
        refine ⟨ret_int ?_, ?_⟩
        ·have f := unhide FIN
         rw [unhide HR] at f
         rw [f]
         show c = (kid j).cmp (kid' j)
         rw [unhide HX, unhide HY, unhide HQ]
        ·have b := unhide B0
         rw [← unhide HB] at b
         exact bstep b (bstep bel (And.left (by assumption)))
     ·have FIN := hide (lex_none (f := fun i => (kid i).cmp (kid' i)) (cmpI len len') (n := min len len') (fun i hi => unhide HA i (by omega)))
      clear ih hin1 hin1' ok ok'
      by_cases hlt : j < len
      ·have hlt' : ¬ j < len' := fun h => hboth ⟨hlt, h⟩
       clear hboth
       go_wp2_with fail
       refine (rord_any _ _ _).mono ?_
       rintro e w1 ⟨rfl, rfl⟩
       go_wp2_with fail
       go_ret
       refine ⟨ret_int (by rw [← unhide HR, unhide FIN]), ?_⟩
       have b := unhide B0
       rw [← unhide HB] at b
       exact bstep b bel
      ·clear hboth
       go_wp2_with fail
       refine (rord_any _ _ _).mono ?_
       rintro e w1 ⟨rfl, rfl⟩
       go_wp2_with fail
       go_ret
       refine ⟨ret_int (by rw [← unhide HR, unhide FIN]), ?_⟩
       have b := unhide B0
       rw [← unhide HB] at b
       exact bstep b bel
   ·rw [if_pos hk]
    have e1 : (k != k') = true := by simpa using hk
    clear ih hin hin' hx hy hk
    go_enter Tryz.func43, Tryz.ntmps43
    go_wp2_with fail
    refine (rord_any _ _ _).mono ?_
    rintro e w1 ⟨rfl, rfl⟩
    go_wp2_with fail
    go_ret
    exact ⟨rfl, b0⟩
theorem rEqual_any (x y : VT) (w : World) (hx : x.okB 2 = true) (hy : y.okB 2 = true) (hin : x.In w) (hin' : y.In w) :
  Calls Tryz.prog 98 #[x.val, y.val] w fun e w' => e = .returned (.bool (x.cmp y == 0)) ∧ Below w.heap.size w w' := by
 cases x with
 | none => exact absurd hin (by simp [VT.In])
 | mk k b m s t a len cap kid =>
  cases y with
  | none => exact absurd hin' (by simp [VT.In])
  | mk k' b' m' s' t' a' len' cap' kid' =>
   show Calls Tryz.prog 98 #[.agg #[.int .i64 k, .bool b, .int .i64 m, .int .i64 s, .string t, .slice a len cap], .agg #[.int .i64 k', .bool b', .int .i64 m', .int .i64 s', .string t', .slice a' len' cap']] w _
   have b0 := below2 w (Obj.cells #[.int .i64 k, .bool b, .int .i64 m, .int .i64 s, .string t, .slice a len cap] 32) (Obj.cells #[.int .i64 k', .bool b', .int .i64 m', .int .i64 s', .string t', .slice a' len' cap'] 32)
   have H := hide (rCmp_any _ _ 2 2 _ hx hy (hin.below b0) (hin'.below b0))
   generalize (VT.mk k b m s t a len cap kid).cmp (VT.mk k' b' m' s' t' a' len' cap' kid') = R at *
   clear hin hin' hx hy
   go_enter Tryz.func98, Tryz.ntmps98
   go_wp2_with fail
   refine (unhide H).mono ?_
   rintro e w1 ⟨rfl, k1⟩
   go_wp2_with fail
   go_ret
   exact ⟨rfl, bstep b0 k1⟩
end
end Go.Proofs.YtfdimdjmnfdecaaGreat

/- EJoin ESou: laid together. -/
import Derived.Test.YtfdimdjmnfdecaaGreatKAM
import Derived.Test.YtfdimdjmnfdecaaGreatKAN
set_option linter.unusedVariables false
set_option linter.unusedSimpArgs false
set_option maxHeartbeats 8000000
namespace Go.Proofs.YtfdimdjmnfdecaaGreat
open Go.RowKit
section
open VT (leaf mkV)
attribute [local go_sem ↓] Go.wp_at_zero Go.wp_at_succ
theorem lf_inw {X : VT} (h : LF X) (ho : X.okB 2 = true) (w : World) : X.In w := by
 obtain ⟨k, b, m, s, t, rfl⟩ := h
 have hk := okB_kind (show (VT.mk k b m s t none 0 0 (fun _ => .none)).okB 2 = true from ho)
 have al := alone_t hk.1
 have h1 : -9223372036854775808 ≤ k ∧ k ≤ 9223372036854775807 := by omega
 have h2 : (-9223372036854775808 ≤ m ∧ m ≤ 9223372036854775807) ∧ -9223372036854775808 ≤ s ∧ s ≤ 9223372036854775807 := by
  by_cases k2 : k = 2
  ·subst k2
   have := isB_bd (okB_num (show (VT.mk 2 b m s t none 0 0 (fun _ => .none)).okB 2 = true from ho))
   omega
  ·have := al.2.1 k2; omega
 have h3 : t.size ≤ maxLen := by
  by_cases k3 : k = 3
  ·subst k3
   have := okB_txt (show (VT.mk 3 b m s t none 0 0 (fun _ => .none)).okB 2 = true from ho)
   simp only [textB, Bool.and_eq_true, decide_eq_true_eq] at this
   unfold maxLen; omega
  ·have := al.2.2.1 k3
   have e : t.size = 0 := by
    rw [ByteArray.toList_eq] at this
    have h := tl_len t
    unfold XT.tl at h
    rw [this] at h
    exact h.symm
   omega
 exact VT.in_leaf (wf_in h1.1 h1.2) (wf_in h2.1.1 h2.1.2) (wf_in h2.2.1 h2.2.2) h3
theorem lf_bare {X : VT} (h : LF X) : X.bare = X := by
 obtain ⟨k, b, m, s, t, rfl⟩ := h
 exact VT.bare_leaf _ _ _ _ _ _ _ _
theorem lf_res {X : VT × Int} (h : LF X.1) (ho : X.1.okB 2 = true) (N : Nat) (w : World) : EvRes N X (.returned (Tup X)) w := by
 refine ⟨X.1.val, rfl, X.1, rfl, lf_inw h ho w, ?_, lf_bare h⟩
 obtain ⟨k, b, m, s, t, e⟩ := h
 rw [e]
 exact VT.lies_leaf _ _ _ _ _ _ _ _ _
theorem boxesX (w : World) (k : Int) (b : Bool) (m s : Int) (t : ByteArray) (lo hi : Bool) (a : Option Addr) (len cap : Nat) :
  XT.Eight ((w.alloc (Obj.cells #[.int .i64 k, .bool b, .int .i64 m, .int .i64 s, .string t, .bool lo, .bool hi, .slice a len cap] 26)).alloc (Obj.cells #[.int .i64 0, .bool false, .int .i64 0, .int .i64 0, .string ⟨#[]⟩, .slice none 0 0] 32)) w.heap.size 0 k b m s t lo hi a len cap ∧ Own ((w.alloc (Obj.cells #[.int .i64 k, .bool b, .int .i64 m, .int .i64 s, .string t, .bool lo, .bool hi, .slice a len cap] 26)).alloc (Obj.cells #[.int .i64 0, .bool false, .int .i64 0, .int .i64 0, .string ⟨#[]⟩, .slice none 0 0] 32)) (w.heap.size + 1) ∧ Below w.heap.size w ((w.alloc (Obj.cells #[.int .i64 k, .bool b, .int .i64 m, .int .i64 s, .string t, .bool lo, .bool hi, .slice a len cap] 26)).alloc (Obj.cells #[.int .i64 0, .bool false, .int .i64 0, .int .i64 0, .string ⟨#[]⟩, .slice none 0 0] 32)) ∧ ((w.alloc (Obj.cells #[.int .i64 k, .bool b, .int .i64 m, .int .i64 s, .string t, .bool lo, .bool hi, .slice a len cap] 26)).alloc (Obj.cells #[.int .i64 0, .bool false, .int .i64 0, .int .i64 0, .string ⟨#[]⟩, .slice none 0 0] 32)).heap.size = w.heap.size + 2 := by
 refine ⟨XT.Eight.below (w := w.alloc (Obj.cells #[.int .i64 k, .bool b, .int .i64 m, .int .i64 s, .string t, .bool lo, .bool hi, .slice a len cap] 26)) ⟨by simp, by go_simp, by go_simp, by go_simp, by go_simp, by go_simp, by go_simp, by go_simp, by go_simp⟩ (below1 _ _), ?_, below2 _ _ _, by simp⟩
 have h := Own.new (w.alloc (Obj.cells #[.int .i64 k, .bool b, .int .i64 m, .int .i64 s, .string t, .bool lo, .bool hi, .slice a len cap] 26)) 32
 simpa using h
theorem join_7 (g c : Nat) (x : VT) (b : Bool) (m s : Int) (t : ByteArray) (lo hi : Bool) (a : Option Addr) (len cap : Nat) (w : World) (N : Nat) (hx : x.okB 2 = true) (hin : (rowT (some ⟨g, 0, none⟩) c [x]).In w) :
  Calls Tryz.prog 27 #[.agg #[.int .i64 7, .bool b, .int .i64 m, .int .i64 s, .string t, .bool lo, .bool hi, .slice a len cap], .slice (some ⟨g, 0, none⟩) 1 c] w fun e w' => EvRes N (negT x) e w' ∧ Below w.heap.size w w' := by
 have BT := boxesX w 7 b m s t lo hi a len cap
 obtain ⟨bl, o, k', b', m', s', t', a', len', cap', kid', hbl, hx1, six, hk⟩ := hin.kid (i := 0) (by simp)
 obtain ⟨rfl, rfl⟩ : g = bl ∧ 0 = o := by simpa using hbl
 obtain rfl : x = .mk k' b' m' s' t' a' len' cap' kid' := by simpa using hx1
 rw [show 0 + 0 * 6 = 0 by omega] at six
 have hgw := six.1
 have NG := hide (neg_any (.mk k' b' m' s' t' a' len' cap' kid') _ hx (hk.below BT.2.2.1))
 have lfn : LF (negT (.mk k' b' m' s' t' a' len' cap' kid')).1 := by unfold negT subR fitR; split; exact lf_rec _ _ _; exact lf_nil
 obtain ⟨K, BB, M', SS, TT, eV⟩ := tup_lf lfn
 have EV := hide eV
 have RES := hide (fun w => lf_res lfn ok_neg N w)
 rw [eV] at RES
 generalize hE2 : (negT (.mk k' b' m' s' t' a' len' cap' kid')).2 = E2 at *
 obtain ⟨y0, y1, y2, y3, y4, y5, y6⟩ := six
 simp only [Nat.zero_add] at y1 y2 y3 y4 y5 y6
 clear hE2 eV hin hx hk hbl hx1
 go_enter Tryz.func27, Tryz.ntmps27
 go_wp2_with fail
 generalize ((w.alloc (Obj.cells #[.int .i64 7, .bool b, .int .i64 m, .int .i64 s, .string t, .bool lo, .bool hi, .slice a len cap] 26)).alloc (Obj.cells #[.int .i64 0, .bool false, .int .i64 0, .int .i64 0, .string ⟨#[]⟩, .slice none 0 0] 32)) = V at *
 obtain ⟨X0, O0, B0, z0⟩ := BT
 obtain ⟨x0, x1, x2, x3, x4, x5, x6, x7, x8⟩ := id X0
 simp only [Nat.zero_add] at x1 x2 x3 x4 x5 x6 x7 x8
 refine (unhide NG).mono ?_
 rintro e w1 ⟨rfl, k1⟩
 rw [unhide EV]
 have O1 := O0.below k1
 have B1 := bstep B0 k1
 clear k1 O0 B0 X0 z0
 obtain ⟨u0, t0, t1, t2, t3, t4, t5, f0, f1, f2, f3, f4, f5⟩ := Own.fl O1
 try unfold lfv
 go_wp2_with fail
 refine bodyPost_ret (v := .tuple #[lfv K BB M' SS TT, .int .i64 E2]) zR27lt0t1t2t3t4t5 rfl ⟨?_, zBL⟩
 exact unhide RES _
theorem join_10 (g c : Nat) (l : List VT) (b : Bool) (m s : Int) (t : ByteArray) (lo hi : Bool) (a : Option Addr) (len cap : Nat) (w : World) (N : Nat) (hok : ∀ v ∈ l, v.okB 2 = true) (hin : (rowT (some ⟨g, 0, none⟩) c l).In w) :
  Calls Tryz.prog 27 #[.agg #[.int .i64 10, .bool b, .int .i64 m, .int .i64 s, .string t, .bool lo, .bool hi, .slice a len cap], .slice (some ⟨g, 0, none⟩) l.length c] w fun e w' => EvRes N (callT (XT.tl t) l) e w' ∧ Below w.heap.size w w' := by
 have BT := boxesX w 10 b m s t lo hi a len cap
 have NG := hide (call_any (XT.tl t) (some ⟨g, 0, none⟩) c l _ (hin.below BT.2.2.1) hok)
 rw [ba_tl] at NG
 obtain ⟨K, BB, M', SS, TT, eV⟩ := tup_lf (lf_call (XT.tl t) l)
 have EV := hide eV
 have RES := hide (fun w => lf_res (lf_call (XT.tl t) l) (ok_call hok) N w)
 rw [eV] at RES
 generalize hE2 : (callT (XT.tl t) l).2 = E2 at *
 clear hE2 eV hin hok
 go_enter Tryz.func27, Tryz.ntmps27
 go_wp2_with fail
 generalize ((w.alloc (Obj.cells #[.int .i64 10, .bool b, .int .i64 m, .int .i64 s, .string t, .bool lo, .bool hi, .slice a len cap] 26)).alloc (Obj.cells #[.int .i64 0, .bool false, .int .i64 0, .int .i64 0, .string ⟨#[]⟩, .slice none 0 0] 32)) = V at *
 obtain ⟨X0, O0, B0, z0⟩ := BT
 obtain ⟨x0, x1, x2, x3, x4, x5, x6, x7, x8⟩ := id X0
 simp only [Nat.zero_add] at x1 x2 x3 x4 x5 x6 x7 x8
 refine (unhide NG).mono ?_
 rintro e w1 ⟨rfl, k1⟩
 rw [unhide EV]
 have O1 := O0.below k1
 have B1 := bstep B0 k1
 clear k1 O0 B0 X0 z0
 obtain ⟨u0, t0, t1, t2, t3, t4, t5, f0, f1, f2, f3, f4, f5⟩ := Own.fl O1
 try unfold lfv
 go_wp2_with fail
 refine bodyPost_ret (v := .tuple #[lfv K BB M' SS TT, .int .i64 E2]) zR27lt0t1t2t3t4t5 rfl ⟨?_, zBL⟩
 exact unhide RES _
theorem join_9 (g c : Nat) (l : List VT) (b : Bool) (m s : Int) (t : ByteArray) (lo hi : Bool) (a : Option Addr) (len cap : Nat) (w : World) (N : Nat) (hin : (rowT (some ⟨g, 0, none⟩) c l).In w) (hN : (rowT (some ⟨g, 0, none⟩) c l).Lies (fun h => N ≤ h)) (hNw : N ≤ w.heap.size) :
  Calls Tryz.prog 27 #[.agg #[.int .i64 9, .bool b, .int .i64 m, .int .i64 s, .string t, .bool lo, .bool hi, .slice a len cap], .slice (some ⟨g, 0, none⟩) l.length c] w fun e w' => EvRes N (lisT (l.map VT.bare)) e w' ∧ Below w.heap.size w w' := by
 have BT := boxesX w 9 b m s t lo hi a len cap
 have NG := hide (elist_any (fun h => N ≤ h ∧ h < w.heap.size) (some ⟨g, 0, none⟩) c l _ (hin.below BT.2.2.1) (hN.and hin.lies))
 generalize lisT (l.map VT.bare) = R at *
 clear hin hN
 go_enter Tryz.func27, Tryz.ntmps27
 go_wp2_with fail
 generalize ((w.alloc (Obj.cells #[.int .i64 9, .bool b, .int .i64 m, .int .i64 s, .string t, .bool lo, .bool hi, .slice a len cap] 26)).alloc (Obj.cells #[.int .i64 0, .bool false, .int .i64 0, .int .i64 0, .string ⟨#[]⟩, .slice none 0 0] 32)) = V at *
 obtain ⟨X0, O0, B0, z0⟩ := BT
 obtain ⟨x0, x1, x2, x3, x4, x5, x6, x7, x8⟩ := id X0
 simp only [Nat.zero_add] at x1 x2 x3 x4 x5 x6 x7 x8
 refine (unhide NG).mono ?_
 rintro e w1 ⟨⟨v, rfl, T, rfl, hT, hTl, hTb⟩, k1⟩
 obtain ⟨ky, by', my, sy, ty, ay, ly, cy, kidy, rfl⟩ := hT.form
 dsimp only [VT.val]
 have O1 := O0.below k1
 have B1 := bstep B0 k1
 have YI := hide hT
 have YL := hide hTl
 have YB := hide hTb
 clear k1 O0 B0 X0 z0 hT hTl hTb NG
 obtain ⟨u0, t0, t1, t2, t3, t4, t5, f0, f1, f2, f3, f4, f5⟩ := Own.fl O1
 go_wp2_with fail
 refine bodyPost_ret (v := .tuple #[.agg #[.int .i64 ky, .bool by', .int .i64 my, .int .i64 sy, .string ty, .slice ay ly cy], .int .i64 R.2]) (by simp [results, Tryz.results27, go_sem, t0, t1, t2, t3, t4, t5]) rfl ⟨⟨_, rfl, .mk ky by' my sy ty ay ly cy kidy, rfl, ?_, ?_, unhide YB⟩, zBL⟩
 ·exact VT.In.kept (fun bl o _ hq => put_cell w1 (w.heap.size + 1) 0 _ _ _ _ _ _ (by omega)) _ (unhide YI) (unhide YL)
 ·exact (unhide YL).weak (fun h hh => hh.1)
theorem join_11 (g c : Nat) (x y z : VT) (b : Bool) (m s : Int) (t : ByteArray) (lo hi : Bool) (a : Option Addr) (len cap : Nat) (w : World) (N : Nat) (hx : x.okB 2 = true) (hy : y.okB 2 = true) (hz : z.okB 2 = true) (hin : (rowT (some ⟨g, 0, none⟩) c [x, y, z]).In w) :
  Calls Tryz.prog 27 #[.agg #[.int .i64 11, .bool b, .int .i64 m, .int .i64 s, .string t, .bool lo, .bool hi, .slice a len cap], .slice (some ⟨g, 0, none⟩) 3 c] w fun e w' => EvRes N (inT lo hi x y z, 0) e w' ∧ Below w.heap.size w w' := by
 have BT := boxesX w 11 b m s t lo hi a len cap
 have NG := hide (ewithin_any lo hi g 0 c x y z _ hx hy hz (hin.below BT.2.2.1))
 obtain ⟨K, BB, M', SS, TT, eV⟩ := (lf_in lo hi x y z).val
 have EV := hide eV
 have RES := hide (fun w => lf_res (X := (inT lo hi x y z, 0)) (lf_in lo hi x y z) (ok_and _ _) N w)
 unfold Tup at RES
 rw [eV] at RES
 clear eV hin hx hy hz
 go_enter Tryz.func27, Tryz.ntmps27
 go_wp2_with fail
 generalize ((w.alloc (Obj.cells #[.int .i64 11, .bool b, .int .i64 m, .int .i64 s, .string t, .bool lo, .bool hi, .slice a len cap] 26)).alloc (Obj.cells #[.int .i64 0, .bool false, .int .i64 0, .int .i64 0, .string ⟨#[]⟩, .slice none 0 0] 32)) = V at *
 obtain ⟨X0, O0, B0, z0⟩ := BT
 obtain ⟨x0, x1, x2, x3, x4, x5, x6, x7, x8⟩ := id X0
 simp only [Nat.zero_add] at x1 x2 x3 x4 x5 x6 x7 x8
 refine (unhide NG).mono ?_
 rintro e w1 ⟨rfl, k1⟩
 rw [unhide EV]
 have O1 := O0.below k1
 have B1 := bstep B0 k1
 clear k1 O0 B0 X0 z0
 obtain ⟨u0, t0, t1, t2, t3, t4, t5, f0, f1, f2, f3, f4, f5⟩ := Own.fl O1
 try unfold lfv
 go_wp2_with fail
 refine bodyPost_ret (v := .tuple #[lfv K BB M' SS TT, .int .i64 0]) zR27lt0t1t2t3t4t5 rfl ⟨?_, zBL⟩
 exact unhide RES _
theorem join_6 (g c : Nat) (x y : VT) (b : Bool) (m s : Int) (t : ByteArray) (lo hi : Bool) (a : Option Addr) (len cap : Nat) (w : World) (N : Nat) (hx : x.okB 2 = true) (hy : y.okB 2 = true) (hin : (rowT (some ⟨g, 0, none⟩) c [x, y]).In w) :
  Calls Tryz.prog 27 #[.agg #[.int .i64 6, .bool b, .int .i64 m, .int .i64 s, .string t, .bool lo, .bool hi, .slice a len cap], .slice (some ⟨g, 0, none⟩) 2 c] w fun e w' => EvRes N (binT (XT.tl t) x y) e w' ∧ Below w.heap.size w w' := by
 have BT := boxesX w 6 b m s t lo hi a len cap
 obtain ⟨bl1, o1, k1, b1, m1, s1, t1, a1, len1, cap1, kid1, hbl1, hx1, six1, hk1⟩ := hin.kid (i := 0) (by simp)
 obtain ⟨bl2, o2, k', b', m', s', t', a', len', cap', kid', hbl2, hx2, six2, hk2⟩ := hin.kid (i := 1) (by simp)
 obtain ⟨rfl, rfl⟩ : g = bl1 ∧ 0 = o1 := by simpa using hbl1
 obtain ⟨rfl, rfl⟩ : g = bl2 ∧ 0 = o2 := by simpa using hbl2
 obtain rfl : x = (VT.mk k1 b1 m1 s1 t1 a1 len1 cap1 kid1) := by simpa using hx1
 obtain rfl : y = (VT.mk k' b' m' s' t' a' len' cap' kid') := by simpa using hx2
 rw [show 0 + 0 * 6 = 0 by omega] at six1
 rw [show 0 + 1 * 6 = 6 by omega] at six2
 have JX := hide (hk1.below BT.2.2.1)
 have JY := hide (hk2.below BT.2.2.1)
 have Q0 := six1.below BT.2.2.1
 have Q1 := six2.below BT.2.2.1
 have TW := hide (fun w h h' => ebinary_any (XT.tl t) (VT.mk k1 b1 m1 s1 t1 a1 len1 cap1 kid1) (VT.mk k' b' m' s' t' a' len' cap' kid') w hx hy h h')
 rw [ba_tl] at TW
 obtain ⟨K, BB, M', SS, TT, eV⟩ := tup_lf (lf_bin (XT.tl t) (VT.mk k1 b1 m1 s1 t1 a1 len1 cap1 kid1) (VT.mk k' b' m' s' t' a' len' cap' kid'))
 have EV := hide eV
 have RES := hide (fun w => lf_res (lf_bin (XT.tl t) (VT.mk k1 b1 m1 s1 t1 a1 len1 cap1 kid1) (VT.mk k' b' m' s' t' a' len' cap' kid')) (ok_bin hx hy) N w)
 rw [eV] at RES
 generalize hE2 : (binT (XT.tl t) (VT.mk k1 b1 m1 s1 t1 a1 len1 cap1 kid1) (VT.mk k' b' m' s' t' a' len' cap' kid')).2 = E2 at *
 have hgw : g < w.heap.size := six1.1
 clear hE2 eV hin hx hy hbl1 hbl2 hx1 hx2 hk1 hk2 six1 six2
 go_enter Tryz.func27, Tryz.ntmps27
 go_wp2_with fail
 generalize ((w.alloc (Obj.cells #[.int .i64 6, .bool b, .int .i64 m, .int .i64 s, .string t, .bool lo, .bool hi, .slice a len cap] 26)).alloc (Obj.cells #[.int .i64 0, .bool false, .int .i64 0, .int .i64 0, .string ⟨#[]⟩, .slice none 0 0] 32)) = V at *
 obtain ⟨X0, O0, B0, z0⟩ := BT
 obtain ⟨x0, x1, x2, x3, x4, x5, x6, x7, x8⟩ := id X0
 simp only [Nat.zero_add] at x1 x2 x3 x4 x5 x6 x7 x8
 have QB := B0
 have C0 := x5
 clear x0 x1 x2 x3 x4 x5 x6 x7 x8 X0
 have SK : Hid (∀ w', Below V.heap.size V w' → (Below w.heap.size w w' ∧ VT.Six w' g (0) k1 b1 m1 s1 t1 a1 len1 cap1 ∧ VT.Six w' g (6) k' b' m' s' t' a' len' cap' ∧ w'.cell? ⟨w.heap.size, 4, none⟩ = some (.string t))) := hide (fun w' kk => ⟨QB.trans (kk.mono (by omega)), VT.Six.below Q0 kk, VT.Six.below Q1 kk, kcell kk (by omega) C0⟩)
 refine wp_region_noPanic ?_
 refine wp_region_held_drew (S := fun w' => Below w.heap.size w w' ∧ VT.Six w' g (0) k1 b1 m1 s1 t1 a1 len1 cap1 ∧ VT.Six w' g (6) k' b' m' s' t' a' len' cap' ∧ w'.cell? ⟨w.heap.size, 4, none⟩ = some (.string t)) (by kernel_rfl) ?hS0 (fun hHeld => ?_)
 case hS0 => exact unhide SK _ (Below.refl _ _).drew
 refine takeAt 0 (some 10) ?pv0 ⟨_, rfl, rfl, rfl, ?py0⟩ (by kernel_rfl) (by kernel_rfl) (by kernel_rfl) (fun _ _ _ h => h) (by assumption) ?_
 case py0 => (intro w0 hSw; obtain ⟨_, ⟨g00, g01, g02, g03, g04, g05, g06⟩, ⟨g10, g11, g12, g13, g14, g15, g16⟩, c0⟩ := hSw; (try simp only [Nat.zero_add] at g01 g02 g03 g04 g05 g06 g11 g12 g13 g14 g15 g16); go_simp; try (with_reducible rfl))
 simp only [Act.put, List.setIfInBounds_toArray, List.set_cons_zero, List.set_cons_succ]
 refine takeAt 1 (some 11) ?pv1 ⟨_, rfl, rfl, rfl, ?py1⟩ (by kernel_rfl) (by kernel_rfl) (by kernel_rfl) (fun _ _ _ h => h) (by assumption) ?_
 case py1 => (intro w0 hSw; obtain ⟨_, ⟨g00, g01, g02, g03, g04, g05, g06⟩, ⟨g10, g11, g12, g13, g14, g15, g16⟩, c0⟩ := hSw; (try simp only [Nat.zero_add] at g01 g02 g03 g04 g05 g06 g11 g12 g13 g14 g15 g16); go_simp; try (with_reducible rfl))
 simp only [Act.put, List.setIfInBounds_toArray, List.set_cons_zero, List.set_cons_succ]
 refine takeAt 2 (some 12) ?pv2 ⟨_, rfl, rfl, rfl, ?py2⟩ (by kernel_rfl) (by kernel_rfl) (by kernel_rfl) (fun _ _ _ h => h) (by assumption) ?_
 case py2 => (intro w0 hSw; obtain ⟨_, ⟨g00, g01, g02, g03, g04, g05, g06⟩, ⟨g10, g11, g12, g13, g14, g15, g16⟩, c0⟩ := hSw; (try simp only [Nat.zero_add] at g01 g02 g03 g04 g05 g06 g11 g12 g13 g14 g15 g16); go_simp; try (with_reducible rfl))
 simp only [Act.put, List.setIfInBounds_toArray, List.set_cons_zero, List.set_cons_succ]
 refine takeAt 3 (some 13) ?pv3 ⟨_, rfl, rfl, rfl, ?py3⟩ (by kernel_rfl) (by kernel_rfl) (by kernel_rfl) (fun _ _ _ h => h) (by assumption) ?_
 case py3 => (intro w0 hSw; obtain ⟨_, ⟨g00, g01, g02, g03, g04, g05, g06⟩, ⟨g10, g11, g12, g13, g14, g15, g16⟩, c0⟩ := hSw; (try simp only [Nat.zero_add] at g01 g02 g03 g04 g05 g06 g11 g12 g13 g14 g15 g16); go_simp; try (with_reducible rfl))
 simp only [Act.put, List.setIfInBounds_toArray, List.set_cons_zero, List.set_cons_succ]
 refine takeAt 4 (some 14) ?pv4 ⟨_, rfl, rfl, rfl, ?py4⟩ (by kernel_rfl) (by kernel_rfl) (by kernel_rfl) (fun _ _ _ h => h) (by assumption) ?_
 case py4 => (intro w0 hSw; obtain ⟨_, ⟨g00, g01, g02, g03, g04, g05, g06⟩, ⟨g10, g11, g12, g13, g14, g15, g16⟩, c0⟩ := hSw; (try simp only [Nat.zero_add] at g01 g02 g03 g04 g05 g06 g11 g12 g13 g14 g15 g16); go_simp; try (with_reducible rfl))
 simp only [Act.put, List.setIfInBounds_toArray, List.set_cons_zero, List.set_cons_succ]
 refine takeAt 5 (some 15) ?pv5 ⟨_, rfl, rfl, rfl, ?py5⟩ (by kernel_rfl) (by kernel_rfl) (by kernel_rfl) (fun _ _ _ h => h) (by assumption) ?_
 case py5 => (intro w0 hSw; obtain ⟨_, ⟨g00, g01, g02, g03, g04, g05, g06⟩, ⟨g10, g11, g12, g13, g14, g15, g16⟩, c0⟩ := hSw; (try simp only [Nat.zero_add] at g01 g02 g03 g04 g05 g06 g11 g12 g13 g14 g15 g16); go_simp; try (with_reducible rfl))
 simp only [Act.put, List.setIfInBounds_toArray, List.set_cons_zero, List.set_cons_succ]
 refine takeAt 6 (some 16) ?pv6 ⟨_, rfl, rfl, rfl, ?py6⟩ (by kernel_rfl) (by kernel_rfl) (by kernel_rfl) (fun _ _ _ h => h) (by assumption) ?_
 case py6 => (intro w0 hSw; obtain ⟨_, ⟨g00, g01, g02, g03, g04, g05, g06⟩, ⟨g10, g11, g12, g13, g14, g15, g16⟩, c0⟩ := hSw; (try simp only [Nat.zero_add] at g01 g02 g03 g04 g05 g06 g11 g12 g13 g14 g15 g16); go_simp; try (with_reducible rfl))
 simp only [Act.put, List.setIfInBounds_toArray, List.set_cons_zero, List.set_cons_succ]
 refine takeAt 7 (some 17) ?pv7 ⟨_, rfl, rfl, rfl, ?py7⟩ (by kernel_rfl) (by kernel_rfl) (by kernel_rfl) (fun _ _ _ h => h) (by assumption) ?_
 case py7 => (intro w0 hSw; obtain ⟨_, ⟨g00, g01, g02, g03, g04, g05, g06⟩, ⟨g10, g11, g12, g13, g14, g15, g16⟩, c0⟩ := hSw; (try simp only [Nat.zero_add] at g01 g02 g03 g04 g05 g06 g11 g12 g13 g14 g15 g16); go_simp; try (with_reducible rfl))
 simp only [Act.put, List.setIfInBounds_toArray, List.set_cons_zero, List.set_cons_succ]
 refine wpAnyH_ready (rs := [8]) (by kernel_rfl) (by simp) ?_
 refine AllReadyH.cons rfl (fun K0 hK0 => ?_) AllReadyH.nil
 go_simp
 refine (unhide TW _ ((unhide JX).below (Below.refl _ _).drew) ((unhide JY).below (Below.refl _ _).drew)).mono ?_
 rintro e w2 ⟨rfl, k2⟩
 rw [unhide EV]
 unfold lfv
 go_wp2_with fail
 refine hK0.out _ _ ?hS7 (fun hHeld1 => ?_)
 case hS7 => exact unhide SK _ (bstep (Below.refl _ _).drew k2)
 clear hK0 K0 hHeld
 have hHeld := hHeld1
 clear hHeld1
 try simp only [Act.put, List.setIfInBounds_toArray, List.set_cons_zero, List.set_cons_succ]
 refine takeAt 9 (some 19) ?qv9 ⟨_, rfl, rfl, rfl, ?qy9⟩ (by kernel_rfl) (by kernel_rfl) (by kernel_rfl) (fun _ _ _ h => h) (by assumption) ?_
 case qy9 => (intro w0 hSw; obtain ⟨_, ⟨g00, g01, g02, g03, g04, g05, g06⟩, ⟨g10, g11, g12, g13, g14, g15, g16⟩, c0⟩ := hSw; (try simp only [Nat.zero_add] at g01 g02 g03 g04 g05 g06 g11 g12 g13 g14 g15 g16); go_simp; try (with_reducible rfl))
 simp only [Act.put, List.setIfInBounds_toArray, List.set_cons_zero, List.set_cons_succ]
 refine takeAt 10 (some 20) ?qv10 ⟨_, rfl, rfl, rfl, ?qy10⟩ (by kernel_rfl) (by kernel_rfl) (by kernel_rfl) (fun _ _ _ h => h) (by assumption) ?_
 case qy10 => (intro w0 hSw; obtain ⟨_, ⟨g00, g01, g02, g03, g04, g05, g06⟩, ⟨g10, g11, g12, g13, g14, g15, g16⟩, c0⟩ := hSw; (try simp only [Nat.zero_add] at g01 g02 g03 g04 g05 g06 g11 g12 g13 g14 g15 g16); go_simp; try (with_reducible rfl))
 simp only [Act.put, List.setIfInBounds_toArray, List.set_cons_zero, List.set_cons_succ]
 have O2 := O0.below (bstep (Below.refl _ _).drew k2)
 obtain ⟨⟨u0, t0, t1', t2, t3, t4, t5⟩, f0, f1, f2, f3, f4, f5⟩ := id O2
 simp only [Nat.zero_add] at t0 t1' t2 t3 t4 t5
 refine wpAnyH_ready (rs := [11]) (by kernel_rfl) (by simp) ?_
 refine AllReadyH.cons rfl (fun K0 hK0 => ?_) AllReadyH.nil
 go_simp
 obtain ⟨hb0, hc0, hv0, hw0⟩ := hHeld
 refine hK0.out _ _ ?hS8 (fun hHeld1 => ?_)
 case hS8 => exact ⟨put_below w2 (w.heap.size + 1) 0 _ _ _ _ _ _ hb0 (by omega), put_six w2 (w.heap.size + 1) 0 _ _ _ _ _ _ hc0 (by omega), put_six w2 (w.heap.size + 1) 0 _ _ _ _ _ _ hv0 (by omega), (put_cell w2 (w.heap.size + 1) 0 _ _ _ _ _ _ (by omega)).trans hw0⟩
 have hHeld := hHeld1
 try simp only [Act.put, List.setIfInBounds_toArray, List.set_cons_zero, List.set_cons_succ]
 refine takeAt 12 (some 5) ?rv12 ⟨_, rfl, rfl, rfl, ?ry12⟩ (by kernel_rfl) (by kernel_rfl) (by kernel_rfl) (fun _ _ _ h => h) (by assumption) ?_
 case ry12 => (intro w0 hSw; obtain ⟨_, ⟨g00, g01, g02, g03, g04, g05, g06⟩, ⟨g10, g11, g12, g13, g14, g15, g16⟩, c0⟩ := hSw; (try simp only [Nat.zero_add] at g01 g02 g03 g04 g05 g06 g11 g12 g13 g14 g15 g16); go_simp; try (with_reducible rfl))
 simp only [Act.put, List.setIfInBounds_toArray, List.set_cons_zero, List.set_cons_succ]
 refine wpAnyH_done (by kernel_rfl) ?_ _
 refine NoPanic.normal ?_
 go_wp2_with fail
 exact bodyPost_ret (v := .tuple #[lfv K BB M' SS TT, .int .i64 E2]) (by simp [results, Tryz.results27, go_sem, lfv, t0, t1', t2, t3, t4, t5]) rfl ⟨unhide RES _, hHeld1.1⟩
end
section
open VT (leaf mkV)
theorem tex_ok (t : ByteArray) (n : Nat) : (texV t).okB n = textB t := by
 unfold texV VT.leaf VT.okB aloneB
 simp
theorem tex_in (t : ByteArray) (ht : t.size ≤ maxLen) (w : World) : (texV t).In w := VT.in_leaf rfl rfl rfl ht
theorem sou_1 (b : Bool) (m s : Int) (t : ByteArray) (lo hi : Bool) (a : Option Addr) (len cap : Nat) (w : World) :
  Calls Tryz.prog 22 #[.agg #[.int .i64 1, .bool b, .int .i64 m, .int .i64 s, .string t, .bool lo, .bool hi, .slice a len cap]] w fun e w' => e = .returned (.bool (true)) ∧ Below w.heap.size w w' := by
 go_enter Tryz.func22, Tryz.ntmps22
 go_wp2_with fail
 go_ret
 exact ⟨rfl, below1 _ _⟩
theorem sou_2 (b : Bool) (m s : Int) (t : ByteArray) (lo hi : Bool) (a : Option Addr) (len cap : Nat) (w : World) :
  Calls Tryz.prog 22 #[.agg #[.int .i64 2, .bool b, .int .i64 m, .int .i64 s, .string t, .bool lo, .bool hi, .slice a len cap]] w fun e w' => e = .returned (.bool (true)) ∧ Below w.heap.size w w' := by
 go_enter Tryz.func22, Tryz.ntmps22
 go_wp2_with fail
 go_ret
 exact ⟨rfl, below1 _ _⟩
theorem sou_5 (b : Bool) (m s : Int) (t : ByteArray) (lo hi : Bool) (a : Option Addr) (len cap : Nat) (w : World) :
  Calls Tryz.prog 22 #[.agg #[.int .i64 5, .bool b, .int .i64 m, .int .i64 s, .string t, .bool lo, .bool hi, .slice a len cap]] w fun e w' => e = .returned (.bool (true)) ∧ Below w.heap.size w w' := by
 go_enter Tryz.func22, Tryz.ntmps22
 go_wp2_with fail
 go_ret
 exact ⟨rfl, below1 _ _⟩
theorem sou_9 (b : Bool) (m s : Int) (t : ByteArray) (lo hi : Bool) (a : Option Addr) (len cap : Nat) (w : World) :
  Calls Tryz.prog 22 #[.agg #[.int .i64 9, .bool b, .int .i64 m, .int .i64 s, .string t, .bool lo, .bool hi, .slice a len cap]] w fun e w' => e = .returned (.bool (true)) ∧ Below w.heap.size w w' := by
 go_enter Tryz.func22, Tryz.ntmps22
 go_wp2_with fail
 go_ret
 exact ⟨rfl, below1 _ _⟩
theorem sou_10 (b : Bool) (m s : Int) (t : ByteArray) (lo hi : Bool) (a : Option Addr) (len cap : Nat) (w : World) :
  Calls Tryz.prog 22 #[.agg #[.int .i64 10, .bool b, .int .i64 m, .int .i64 s, .string t, .bool lo, .bool hi, .slice a len cap]] w fun e w' => e = .returned (.bool (true)) ∧ Below w.heap.size w w' := by
 go_enter Tryz.func22, Tryz.ntmps22
 go_wp2_with fail
 go_ret
 exact ⟨rfl, below1 _ _⟩
theorem sou_3 (b : Bool) (m s : Int) (t : ByteArray) (lo hi : Bool) (a : Option Addr) (len cap : Nat) (w : World) :
  Calls Tryz.prog 22 #[.agg #[.int .i64 3, .bool b, .int .i64 m, .int .i64 s, .string t, .bool lo, .bool hi, .slice a len cap]] w fun e w' => e = .returned (.bool (isB m s)) ∧ Below w.heap.size w w' := by
 go_enter Tryz.func22, Tryz.ntmps22
 go_wp2_with fail
 refine (is_any _ _ _).mono ?_
 rintro e w1 ⟨rfl, k1⟩
 go_wp2_with fail
 go_ret
 exact ⟨rfl, bstep (below1 _ _) k1⟩
theorem sou_4 (b : Bool) (m s : Int) (t : ByteArray) (lo hi : Bool) (a : Option Addr) (len cap : Nat) (w : World) (ht : t.size ≤ maxLen) :
  Calls Tryz.prog 22 #[.agg #[.int .i64 4, .bool b, .int .i64 m, .int .i64 s, .string t, .bool lo, .bool hi, .slice a len cap]] w fun e w' => e = .returned (.bool (textB t)) ∧ Below w.heap.size w w' := by
 have VI := hide (fun w => vis_any (texV t) w (tex_in t ht w))
 rw [tex_ok] at VI
 clear ht
 go_enter Tryz.func22, Tryz.ntmps22
 go_wp2_with fail
 refine (etext_any _ _).mono ?_
 rintro e w1 ⟨rfl, k1⟩
 go_wp2_with fail
 refine (unhide VI _).mono ?_
 rintro e w2 ⟨rfl, k2⟩
 go_wp2_with fail
 go_ret
 exact ⟨rfl, bstep (bstep (below1 _ _) k1) k2⟩
theorem sou_6 (b : Bool) (m s : Int) (t : ByteArray) (lo hi : Bool) (a : Option Addr) (len cap : Nat) (w : World) :
  Calls Tryz.prog 22 #[.agg #[.int .i64 6, .bool b, .int .i64 m, .int .i64 s, .string t, .bool lo, .bool hi, .slice a len cap]] w fun e w' => e = .returned (.bool (decide (len = 2))) ∧ Below w.heap.size w w' := by
 have e0 : ((len : Int) == 2) = decide (len = 2) := by by_cases h : len = 2 <;> simp [h] <;> omega
 generalize decide (len = 2) = D at *
 go_enter Tryz.func22, Tryz.ntmps22
 go_wp2_with fail
 go_ret
 exact ⟨ret_bool (by rfl), below1 _ _⟩
theorem sou_7 (b : Bool) (m s : Int) (t : ByteArray) (lo hi : Bool) (a : Option Addr) (len cap : Nat) (w : World) :
  Calls Tryz.prog 22 #[.agg #[.int .i64 7, .bool b, .int .i64 m, .int .i64 s, .string t, .bool lo, .bool hi, .slice a len cap]] w fun e w' => e = .returned (.bool (decide (len = 1))) ∧ Below w.heap.size w w' := by
 have e0 : ((len : Int) == 1) = decide (len = 1) := by by_cases h : len = 1 <;> simp [h] <;> omega
 generalize decide (len = 1) = D at *
 go_enter Tryz.func22, Tryz.ntmps22
 go_wp2_with fail
 go_ret
 exact ⟨ret_bool (by rfl), below1 _ _⟩
theorem sou_8 (b : Bool) (m s : Int) (t : ByteArray) (lo hi : Bool) (a : Option Addr) (len cap : Nat) (w : World) :
  Calls Tryz.prog 22 #[.agg #[.int .i64 8, .bool b, .int .i64 m, .int .i64 s, .string t, .bool lo, .bool hi, .slice a len cap]] w fun e w' => e = .returned (.bool (decide (len = 3))) ∧ Below w.heap.size w w' := by
 have e0 : ((len : Int) == 3) = decide (len = 3) := by by_cases h : len = 3 <;> simp [h] <;> omega
 generalize decide (len = 3) = D at *
 go_enter Tryz.func22, Tryz.ntmps22
 go_wp2_with fail
 go_ret
 exact ⟨ret_bool (by rfl), below1 _ _⟩
theorem sou_11 (b : Bool) (m s : Int) (t : ByteArray) (lo hi : Bool) (a : Option Addr) (len cap : Nat) (w : World) :
  Calls Tryz.prog 22 #[.agg #[.int .i64 11, .bool b, .int .i64 m, .int .i64 s, .string t, .bool lo, .bool hi, .slice a len cap]] w fun e w' => e = .returned (.bool (decide (len = 3))) ∧ Below w.heap.size w w' := by
 have e0 : ((len : Int) == 3) = decide (len = 3) := by by_cases h : len = 3 <;> simp [h] <;> omega
 generalize decide (len = 3) = D at *
 go_enter Tryz.func22, Tryz.ntmps22
 go_wp2_with fail
 go_ret
 exact ⟨ret_bool (by rfl), below1 _ _⟩
theorem sou_no (k : Int) (b : Bool) (m s : Int) (t : ByteArray) (lo hi : Bool) (a : Option Addr) (len cap : Nat) (w : World) (n1 : (k == 1) = false) (n2 : (k == 2) = false) (n3 : (k == 3) = false) (n4 : (k == 4) = false) (n5 : (k == 5) = false) (n6 : (k == 6) = false) (n7 : (k == 7) = false) (n8 : (k == 8) = false) (n9 : (k == 9) = false) (n10 : (k == 10) = false) (n11 : (k == 11) = false) :
  Calls Tryz.prog 22 #[.agg #[.int .i64 k, .bool b, .int .i64 m, .int .i64 s, .string t, .bool lo, .bool hi, .slice a len cap]] w fun e w' => e = .returned (.bool (false)) ∧ Below w.heap.size w w' := by
 go_enter Tryz.func22, Tryz.ntmps22
 go_wp2_with fail
 go_ret
 exact ⟨rfl, below1 _ _⟩
theorem sound_any (k : Int) (b : Bool) (m s : Int) (t : ByteArray) (lo hi : Bool) (a : Option Addr) (len cap : Nat) (w : World) (ht : t.size ≤ maxLen) :
  Calls Tryz.prog 22 #[.agg #[.int .i64 k, .bool b, .int .i64 m, .int .i64 s, .string t, .bool lo, .bool hi, .slice a len cap]] w fun e w' => e = .returned (.bool (souB k m s t len)) ∧ Below w.heap.size w w' := by
 unfold souB
 by_cases h1 : k = 1
 ·subst h1; rw [if_pos (by decide)]; exact sou_1 b m s t lo hi a len cap w
 by_cases h2 : k = 2
 ·subst h2; rw [if_pos (by decide)]; exact sou_2 b m s t lo hi a len cap w
 by_cases h5 : k = 5
 ·subst h5; rw [if_pos (by decide)]; exact sou_5 b m s t lo hi a len cap w
 by_cases h9 : k = 9
 ·subst h9; rw [if_pos (by decide)]; exact sou_9 b m s t lo hi a len cap w
 by_cases h10 : k = 10
 ·subst h10; rw [if_pos (by decide)]; exact sou_10 b m s t lo hi a len cap w
 rw [if_neg (by omega)]
 by_cases h3 : k = 3
 ·subst h3; rw [if_pos rfl]; exact sou_3 b m s t lo hi a len cap w
 rw [if_neg h3]
 by_cases h4 : k = 4
 ·subst h4; rw [if_pos rfl]; exact sou_4 b m s t lo hi a len cap w ht
 rw [if_neg h4]
 by_cases h6 : k = 6
 ·subst h6; rw [if_pos rfl]; exact sou_6 b m s t lo hi a len cap w
 rw [if_neg h6]
 by_cases h7 : k = 7
 ·subst h7; rw [if_pos rfl]; exact sou_7 b m s t lo hi a len cap w
 rw [if_neg h7]
 by_cases h8 : k = 8
 ·subst h8; rw [if_pos (by decide)]; exact sou_8 b m s t lo hi a len cap w
 by_cases h11 : k = 11
 ·subst h11; rw [if_pos (by decide)]; exact sou_11 b m s t lo hi a len cap w
 rw [if_neg (by omega)]
 exact sou_no k b m s t lo hi a len cap w (by simpa using h1) (by simpa using h2) (by simpa using h3) (by simpa using h4) (by simpa using h5) (by simpa using h6) (by simpa using h7) (by simpa using h8) (by simpa using h9) (by simpa using h10) (by simpa using h11)
theorem plain_1 (b : Bool) (m s : Int) (t : ByteArray) (lo hi : Bool) (a : Option Addr) (len cap : Nat) (w : World) :
  Calls Tryz.prog 23 #[.agg #[.int .i64 1, .bool b, .int .i64 m, .int .i64 s, .string t, .bool lo, .bool hi, .slice a len cap]] w fun e w' => e = .returned (lfv 0 false 0 0 ⟨#[]⟩) ∧ Below w.heap.size w w' := by
 go_enter Tryz.func23, Tryz.ntmps23
 go_wp2_with fail
 exact bodyPost_ret (v := lfv 0 false 0 0 ⟨#[]⟩) (by simp [results, Tryz.results23, go_sem, lfv]) rfl ⟨rfl, zBL⟩
theorem plain_2 (b : Bool) (m s : Int) (t : ByteArray) (lo hi : Bool) (a : Option Addr) (len cap : Nat) (w : World) :
  Calls Tryz.prog 23 #[.agg #[.int .i64 2, .bool b, .int .i64 m, .int .i64 s, .string t, .bool lo, .bool hi, .slice a len cap]] w fun e w' => e = .returned (lfv 1 b 0 0 ⟨#[]⟩) ∧ Below w.heap.size w w' := by
 go_enter Tryz.func23, Tryz.ntmps23
 go_wp2_with fail
 have B0 := below2 w (Obj.cells #[.int .i64 2, .bool b, .int .i64 m, .int .i64 s, .string t, .bool lo, .bool hi, .slice a len cap] 26) (Obj.cells #[.int .i64 0, .bool false, .int .i64 0, .int .i64 0, .string ⟨#[]⟩, .slice none 0 0] 32)
 have O0 : Own ((w.alloc (Obj.cells #[.int .i64 2, .bool b, .int .i64 m, .int .i64 s, .string t, .bool lo, .bool hi, .slice a len cap] 26)).alloc (Obj.cells #[.int .i64 0, .bool false, .int .i64 0, .int .i64 0, .string ⟨#[]⟩, .slice none 0 0] 32)) (w.heap.size + 1) := by
  have h := Own.new (w.alloc (Obj.cells #[.int .i64 2, .bool b, .int .i64 m, .int .i64 s, .string t, .bool lo, .bool hi, .slice a len cap] 26)) 32
  simpa using h
 refine (etruth_any _ _).mono ?_
 rintro e w1 ⟨rfl, k1⟩
 have O1 := O0.below k1
 have B1 := bstep B0 k1
 clear k1 O0 B0
 obtain ⟨u0, t0, t1, t2, t3, t4, t5, f0, f1, f2, f3, f4, f5⟩ := Own.fl O1
 unfold lfv
 go_wp2_with fail
 exact bodyPost_ret (v := lfv 1 b 0 0 ⟨#[]⟩) zR23lt0t1t2t3t4t5 rfl ⟨rfl, zBL⟩
theorem plain_3 (b : Bool) (m s : Int) (t : ByteArray) (lo hi : Bool) (a : Option Addr) (len cap : Nat) (w : World) :
  Calls Tryz.prog 23 #[.agg #[.int .i64 3, .bool b, .int .i64 m, .int .i64 s, .string t, .bool lo, .bool hi, .slice a len cap]] w fun e w' => e = .returned (lfv 2 false m s ⟨#[]⟩) ∧ Below w.heap.size w w' := by
 go_enter Tryz.func23, Tryz.ntmps23
 go_wp2_with fail
 have B0 := below2 w (Obj.cells #[.int .i64 3, .bool b, .int .i64 m, .int .i64 s, .string t, .bool lo, .bool hi, .slice a len cap] 26) (Obj.cells #[.int .i64 0, .bool false, .int .i64 0, .int .i64 0, .string ⟨#[]⟩, .slice none 0 0] 32)
 have O0 : Own ((w.alloc (Obj.cells #[.int .i64 3, .bool b, .int .i64 m, .int .i64 s, .string t, .bool lo, .bool hi, .slice a len cap] 26)).alloc (Obj.cells #[.int .i64 0, .bool false, .int .i64 0, .int .i64 0, .string ⟨#[]⟩, .slice none 0 0] 32)) (w.heap.size + 1) := by
  have h := Own.new (w.alloc (Obj.cells #[.int .i64 3, .bool b, .int .i64 m, .int .i64 s, .string t, .bool lo, .bool hi, .slice a len cap] 26)) 32
  simpa using h
 refine (enumber_any _ _ _).mono ?_
 rintro e w1 ⟨rfl, k1⟩
 have O1 := O0.below k1
 have B1 := bstep B0 k1
 clear k1 O0 B0
 obtain ⟨u0, t0, t1, t2, t3, t4, t5, f0, f1, f2, f3, f4, f5⟩ := Own.fl O1
 unfold lfv
 go_wp2_with fail
 exact bodyPost_ret (v := lfv 2 false m s ⟨#[]⟩) zR23lt0t1t2t3t4t5 rfl ⟨rfl, zBL⟩
theorem plain_4 (b : Bool) (m s : Int) (t : ByteArray) (lo hi : Bool) (a : Option Addr) (len cap : Nat) (w : World) :
  Calls Tryz.prog 23 #[.agg #[.int .i64 4, .bool b, .int .i64 m, .int .i64 s, .string t, .bool lo, .bool hi, .slice a len cap]] w fun e w' => e = .returned (lfv 3 false 0 0 t) ∧ Below w.heap.size w w' := by
 go_enter Tryz.func23, Tryz.ntmps23
 go_wp2_with fail
 have B0 := below2 w (Obj.cells #[.int .i64 4, .bool b, .int .i64 m, .int .i64 s, .string t, .bool lo, .bool hi, .slice a len cap] 26) (Obj.cells #[.int .i64 0, .bool false, .int .i64 0, .int .i64 0, .string ⟨#[]⟩, .slice none 0 0] 32)
 have O0 : Own ((w.alloc (Obj.cells #[.int .i64 4, .bool b, .int .i64 m, .int .i64 s, .string t, .bool lo, .bool hi, .slice a len cap] 26)).alloc (Obj.cells #[.int .i64 0, .bool false, .int .i64 0, .int .i64 0, .string ⟨#[]⟩, .slice none 0 0] 32)) (w.heap.size + 1) := by
  have h := Own.new (w.alloc (Obj.cells #[.int .i64 4, .bool b, .int .i64 m, .int .i64 s, .string t, .bool lo, .bool hi, .slice a len cap] 26)) 32
  simpa using h
 refine (etext_any _ _).mono ?_
 rintro e w1 ⟨rfl, k1⟩
 have O1 := O0.below k1
 have B1 := bstep B0 k1
 clear k1 O0 B0
 obtain ⟨u0, t0, t1, t2, t3, t4, t5, f0, f1, f2, f3, f4, f5⟩ := Own.fl O1
 unfold lfv
 go_wp2_with fail
 exact bodyPost_ret (v := lfv 3 false 0 0 t) zR23lt0t1t2t3t4t5 rfl ⟨rfl, zBL⟩
end
end Go.Proofs.YtfdimdjmnfdecaaGreat

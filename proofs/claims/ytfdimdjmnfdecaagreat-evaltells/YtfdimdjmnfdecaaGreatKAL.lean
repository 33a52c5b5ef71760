/- EOver: laid together. -/
import Derived.Test.YtfdimdjmnfdecaaGreatKAK
set_option linter.unusedVariables false
set_option linter.unusedSimpArgs false
set_option maxHeartbeats 8000000
namespace Go.Proofs.YtfdimdjmnfdecaaGreat
open Go.RowKit
open VT (leaf mkV)
theorem lf_fur (way : Int) (l : List VT) : LF (furV way l) := by cases l; exact lf_nil; exact lf_num _ _
theorem lf_sum (l : List VT) : ∀ d, LF (sumT l d).1 := by
 induction l with
 | nil => intro d; exact lf_num _ _
 | cons v l ih =>
  intro d
  unfold sumT
  split
  ·exact ih _
  ·exact lf_nil
theorem lf_ov (nm : List UInt8) (l : List VT) : LF (ovT nm l).1 := by
 unfold ovT
 repeat (first | exact lf_nil | exact lf_fur _ _ | exact lf_sum _ _ | split)
theorem lf_over (nm : List UInt8) (l : List VT) : LF (overT nm l).1 := by
 unfold overT
 split
 ·exact lf_nil
 ·exact lf_ov _ _
theorem isB_all {l : List VT} (h : (l.all fun v => kdV v == 2) = true) (hok : ∀ v ∈ l, v.okB 2 = true) : ∀ v ∈ l, isB (mOf v) (sOf v) = true := by
 intro v hv
 have h1 := List.all_eq_true.1 h v hv
 have h2 := hok v hv
 cases v with
 | none => exact absurd h2 (by simp [VT.okB])
 | mk k b m s t a len cap kid =>
  have : k = 2 := by simpa [kdV] using h1
  subst this
  exact okB_num h2
theorem overL_no (nm : List UInt8) (bl o cap : Nat) (b : Bool) (m s : Int) (t : ByteArray) (a1 : Option Addr) (cap1 : Nat) (l : List VT) (w : World) (six : VT.Six w bl o 4 b m s t a1 l.length cap1) (hr : (rowT a1 cap1 l).In w) (hall : (l.all fun v => kdV v == 2) = false) :
  Calls Tryz.prog 87 #[.string ⟨(nm).toArray⟩, .slice (some ⟨bl, o, none⟩) 1 cap] w fun e w' => e = .returned (.tuple #[lfv 0 false 0 0 ⟨#[]⟩, .int .i64 0]) ∧ Below w.heap.size w w' := by
 have b0 := bZ w
 have O0 := Own.new w 32
 have AL := hide (fun w h => all_any 2 a1 cap1 l w h)
 rw [hall] at AL
 clear hall
 obtain ⟨s0, s1, s2, s3, s4, s5, s6⟩ := six
 have hr1 := hide (hr.below b0)
 clear hr
 go_enter Tryz.func87, Tryz.ntmps87
 go_wp2_with fail
 refine (unhide AL _ (unhide hr1)).mono ?_
 rintro e w1 ⟨rfl, k1⟩
 have O1 := O0.below k1
 have B1 := bstep b0 k1
 have hr2 := hide ((unhide hr1).below k1)
 clear k1 O0 b0 hr1
 obtain ⟨u0, t0, t1, t2, t3, t4, t5, f0, f1, f2, f3, f4, f5⟩ := Own.fl O1
 try unfold lfv
 go_wp2_with fail
 exact bodyPost_ret (v := .tuple #[lfv 0 false 0 0 ⟨#[]⟩, .int .i64 0]) zR87lt0t1t2t3t4t5 rfl ⟨rfl, zBL⟩
theorem overL_min (bl o cap : Nat) (b : Bool) (m s : Int) (t : ByteArray) (a1 : Option Addr) (cap1 : Nat) (l : List VT) (w : World) (six : VT.Six w bl o 4 b m s t a1 l.length cap1) (hr : (rowT a1 cap1 l).In w) (hall : (l.all fun v => kdV v == 2) = true) (hok : ∀ v ∈ l, v.okB 2 = true) :
  Calls Tryz.prog 87 #[.string ⟨([109, 105, 110]).toArray⟩, .slice (some ⟨bl, o, none⟩) 1 cap] w fun e w' => e = .returned (Tup (furV (-1) l, 0)) ∧ Below w.heap.size w w' := by
 have b0 := bZ w
 have O0 := Own.new w 32
 have AL := hide (fun w h => all_any 2 a1 cap1 l w h)
 rw [hall] at AL
 have FU := hide (fun w h => fur_any a1 cap1 l (-1) w h (isB_all hall hok))
 obtain ⟨K, BB, M', SS, TT, eV⟩ := (lf_fur (-1) l).val
 have EV := hide eV
 unfold Tup
 rw [eV]
 clear eV hall hok
 obtain ⟨s0, s1, s2, s3, s4, s5, s6⟩ := six
 have hr1 := hide (hr.below b0)
 clear hr
 go_enter Tryz.func87, Tryz.ntmps87
 go_wp2_with fail
 refine (unhide AL _ (unhide hr1)).mono ?_
 rintro e w1 ⟨rfl, k1⟩
 have O1 := O0.below k1
 have B1 := bstep b0 k1
 have hr2 := hide ((unhide hr1).below k1)
 clear k1 O0 b0 hr1
 go_wp2_with fail
 refine (unhide FU _ (unhide hr2)).mono ?_
 rintro e w2 ⟨rfl, k2⟩
 have O2 := O1.below k2
 have B2 := bstep B1 k2
 clear k2 O1 B1 hr2
 rw [unhide EV]
 obtain ⟨u0, t0, t1, t2, t3, t4, t5, f0, f1, f2, f3, f4, f5⟩ := Own.fl O2
 try unfold lfv
 go_wp2_with fail
 exact bodyPost_ret (v := .tuple #[lfv K BB M' SS TT, .int .i64 0]) zR87lt0t1t2t3t4t5 rfl ⟨rfl, zBL⟩
theorem overL_max (bl o cap : Nat) (b : Bool) (m s : Int) (t : ByteArray) (a1 : Option Addr) (cap1 : Nat) (l : List VT) (w : World) (six : VT.Six w bl o 4 b m s t a1 l.length cap1) (hr : (rowT a1 cap1 l).In w) (hall : (l.all fun v => kdV v == 2) = true) (hok : ∀ v ∈ l, v.okB 2 = true) :
  Calls Tryz.prog 87 #[.string ⟨([109, 97, 120]).toArray⟩, .slice (some ⟨bl, o, none⟩) 1 cap] w fun e w' => e = .returned (Tup (furV 1 l, 0)) ∧ Below w.heap.size w w' := by
 have b0 := bZ w
 have O0 := Own.new w 32
 have AL := hide (fun w h => all_any 2 a1 cap1 l w h)
 rw [hall] at AL
 have FU := hide (fun w h => fur_any a1 cap1 l 1 w h (isB_all hall hok))
 obtain ⟨K, BB, M', SS, TT, eV⟩ := (lf_fur 1 l).val
 have EV := hide eV
 unfold Tup
 rw [eV]
 clear eV hall hok
 obtain ⟨s0, s1, s2, s3, s4, s5, s6⟩ := six
 have hr1 := hide (hr.below b0)
 clear hr
 go_enter Tryz.func87, Tryz.ntmps87
 go_wp2_with fail
 refine (unhide AL _ (unhide hr1)).mono ?_
 rintro e w1 ⟨rfl, k1⟩
 have O1 := O0.below k1
 have B1 := bstep b0 k1
 have hr2 := hide ((unhide hr1).below k1)
 clear k1 O0 b0 hr1
 go_wp2_with fail
 refine (unhide FU _ (unhide hr2)).mono ?_
 rintro e w2 ⟨rfl, k2⟩
 have O2 := O1.below k2
 have B2 := bstep B1 k2
 clear k2 O1 B1 hr2
 rw [unhide EV]
 obtain ⟨u0, t0, t1, t2, t3, t4, t5, f0, f1, f2, f3, f4, f5⟩ := Own.fl O2
 try unfold lfv
 go_wp2_with fail
 exact bodyPost_ret (v := .tuple #[lfv K BB M' SS TT, .int .i64 0]) zR87lt0t1t2t3t4t5 rfl ⟨rfl, zBL⟩
theorem overL_sum (nm : List UInt8) (q1 : (nm == [109, 105, 110]) = false) (q2 : (nm == [109, 97, 120]) = false) (bl o cap : Nat) (b : Bool) (m s : Int) (t : ByteArray) (a1 : Option Addr) (cap1 : Nat) (l : List VT) (w : World) (six : VT.Six w bl o 4 b m s t a1 l.length cap1) (hr : (rowT a1 cap1 l).In w) (hall : (l.all fun v => kdV v == 2) = true) (hok : ∀ v ∈ l, v.okB 2 = true) :
  Calls Tryz.prog 87 #[.string ⟨(nm).toArray⟩, .slice (some ⟨bl, o, none⟩) 1 cap] w fun e w' => e = .returned (Tup (sumT l (0, 0))) ∧ Below w.heap.size w w' := by
 have b0 := bZ w
 have O0 := Own.new w 32
 have AL := hide (fun w h => all_any 2 a1 cap1 l w h)
 rw [hall] at AL
 have FU := hide (fun w h => sum_any a1 cap1 l w h (isB_all hall hok))
 obtain ⟨K, BB, M', SS, TT, eV⟩ := tup_lf (lf_sum l (0, 0))
 have EV := hide eV
 rw [eV]
 generalize hE2 : (sumT l (0, 0)).2 = E2 at *
 clear eV hall hok hE2
 obtain ⟨s0, s1, s2, s3, s4, s5, s6⟩ := six
 have hr1 := hide (hr.below b0)
 clear hr
 go_enter Tryz.func87, Tryz.ntmps87
 go_wp2_with fail
 refine (unhide AL _ (unhide hr1)).mono ?_
 rintro e w1 ⟨rfl, k1⟩
 have O1 := O0.below k1
 have B1 := bstep b0 k1
 have hr2 := hide ((unhide hr1).below k1)
 clear k1 O0 b0 hr1
 go_wp2_with fail
 refine (unhide FU _ (unhide hr2)).mono ?_
 rintro e w2 ⟨rfl, k2⟩
 have O2 := O1.below k2
 have B2 := bstep B1 k2
 clear k2 O1 B1 hr2
 rw [unhide EV]
 obtain ⟨u0, t0, t1, t2, t3, t4, t5, f0, f1, f2, f3, f4, f5⟩ := Own.fl O2
 try unfold lfv
 go_wp2_with fail
 exact bodyPost_ret (v := .tuple #[lfv K BB M' SS TT, .int .i64 E2]) zR87lt0t1t2t3t4t5 rfl ⟨rfl, zBL⟩
theorem overR_no (nm : List UInt8) (a : Option Addr) (cap : Nat) (l : List VT) (w : World) (e0 : ((l.length : Int) == 0) = false) (h1 : ((l.length : Int) == 1) = false ∨ ∃ bl o k b m s t a1 len1 cap1, a = some ⟨bl, o, none⟩ ∧ VT.Six w bl o k b m s t a1 len1 cap1 ∧ (k == 4) = false ∧ l.length = 1) (hr : (rowT a cap l).In w) (hall : (l.all fun v => kdV v == 2) = false) :
  Calls Tryz.prog 87 #[.string ⟨(nm).toArray⟩, .slice a l.length cap] w fun e w' => e = .returned (.tuple #[lfv 0 false 0 0 ⟨#[]⟩, .int .i64 0]) ∧ Below w.heap.size w w' := by
 have b0 := bZ w
 have O0 := Own.new w 32
 have AL := hide (fun w h => all_any 2 a cap l w h)
 rw [hall] at AL
 clear hall
 have hr1 := hide (hr.below b0)
 clear hr
 rcases h1 with e1 | ⟨bl, o, k, b, m, s, t, a1, len1, cap1, rfl, ⟨s0, s1, s2, s3, s4, s5, s6⟩, hk, hl1⟩
 ·go_enter Tryz.func87, Tryz.ntmps87
  go_wp2_with fail
  refine (unhide AL _ (unhide hr1)).mono ?_
  rintro e w1 ⟨rfl, k1⟩
  have O1 := O0.below k1
  have B1 := bstep b0 k1
  have hr2 := hide ((unhide hr1).below k1)
  clear k1 O0 b0 hr1
  obtain ⟨u0, t0, t1, t2, t3, t4, t5, f0, f1, f2, f3, f4, f5⟩ := Own.fl O1
  try unfold lfv
  go_wp2_with fail
  exact bodyPost_ret (v := .tuple #[lfv 0 false 0 0 ⟨#[]⟩, .int .i64 0]) zR87lt0t1t2t3t4t5 rfl ⟨rfl, zBL⟩
 ·have e1 : ((l.length : Int) == 1) = true := by simp; omega
  have hl0 : 0 < l.length := by omega
  clear hl1
  go_enter Tryz.func87, Tryz.ntmps87
  go_wp2_with fail
  refine (unhide AL _ (unhide hr1)).mono ?_
  rintro e w1 ⟨rfl, k1⟩
  have O1 := O0.below k1
  have B1 := bstep b0 k1
  have hr2 := hide ((unhide hr1).below k1)
  clear k1 O0 b0 hr1
  obtain ⟨u0, t0, t1, t2, t3, t4, t5, f0, f1, f2, f3, f4, f5⟩ := Own.fl O1
  try unfold lfv
  go_wp2_with fail
  exact bodyPost_ret (v := .tuple #[lfv 0 false 0 0 ⟨#[]⟩, .int .i64 0]) zR87lt0t1t2t3t4t5 rfl ⟨rfl, zBL⟩
theorem overR_min (a : Option Addr) (cap : Nat) (l : List VT) (w : World) (e0 : ((l.length : Int) == 0) = false) (h1 : ((l.length : Int) == 1) = false ∨ ∃ bl o k b m s t a1 len1 cap1, a = some ⟨bl, o, none⟩ ∧ VT.Six w bl o k b m s t a1 len1 cap1 ∧ (k == 4) = false ∧ l.length = 1) (hr : (rowT a cap l).In w) (hall : (l.all fun v => kdV v == 2) = true) (hok : ∀ v ∈ l, v.okB 2 = true) :
  Calls Tryz.prog 87 #[.string ⟨([109, 105, 110]).toArray⟩, .slice a l.length cap] w fun e w' => e = .returned (Tup (furV (-1) l, 0)) ∧ Below w.heap.size w w' := by
 have b0 := bZ w
 have O0 := Own.new w 32
 have AL := hide (fun w h => all_any 2 a cap l w h)
 rw [hall] at AL
 have FU := hide (fun w h => fur_any a cap l (-1) w h (isB_all hall hok))
 obtain ⟨K, BB, M', SS, TT, eV⟩ := (lf_fur (-1) l).val
 have EV := hide eV
 unfold Tup
 rw [eV]
 clear eV hall hok
 have hr1 := hide (hr.below b0)
 clear hr
 rcases h1 with e1 | ⟨bl, o, k, b, m, s, t, a1, len1, cap1, rfl, ⟨s0, s1, s2, s3, s4, s5, s6⟩, hk, hl1⟩
 ·go_enter Tryz.func87, Tryz.ntmps87
  go_wp2_with fail
  refine (unhide AL _ (unhide hr1)).mono ?_
  rintro e w1 ⟨rfl, k1⟩
  have O1 := O0.below k1
  have B1 := bstep b0 k1
  have hr2 := hide ((unhide hr1).below k1)
  clear k1 O0 b0 hr1
  go_wp2_with fail
  refine (unhide FU _ (unhide hr2)).mono ?_
  rintro e w2 ⟨rfl, k2⟩
  have O2 := O1.below k2
  have B2 := bstep B1 k2
  clear k2 O1 B1 hr2
  rw [unhide EV]
  obtain ⟨u0, t0, t1, t2, t3, t4, t5, f0, f1, f2, f3, f4, f5⟩ := Own.fl O2
  try unfold lfv
  go_wp2_with fail
  exact bodyPost_ret (v := .tuple #[lfv K BB M' SS TT, .int .i64 0]) zR87lt0t1t2t3t4t5 rfl ⟨rfl, zBL⟩
 ·have e1 : ((l.length : Int) == 1) = true := by simp; omega
  have hl0 : 0 < l.length := by omega
  clear hl1
  go_enter Tryz.func87, Tryz.ntmps87
  go_wp2_with fail
  refine (unhide AL _ (unhide hr1)).mono ?_
  rintro e w1 ⟨rfl, k1⟩
  have O1 := O0.below k1
  have B1 := bstep b0 k1
  have hr2 := hide ((unhide hr1).below k1)
  clear k1 O0 b0 hr1
  go_wp2_with fail
  refine (unhide FU _ (unhide hr2)).mono ?_
  rintro e w2 ⟨rfl, k2⟩
  have O2 := O1.below k2
  have B2 := bstep B1 k2
  clear k2 O1 B1 hr2
  rw [unhide EV]
  obtain ⟨u0, t0, t1, t2, t3, t4, t5, f0, f1, f2, f3, f4, f5⟩ := Own.fl O2
  try unfold lfv
  go_wp2_with fail
  exact bodyPost_ret (v := .tuple #[lfv K BB M' SS TT, .int .i64 0]) zR87lt0t1t2t3t4t5 rfl ⟨rfl, zBL⟩
theorem overR_max (a : Option Addr) (cap : Nat) (l : List VT) (w : World) (e0 : ((l.length : Int) == 0) = false) (h1 : ((l.length : Int) == 1) = false ∨ ∃ bl o k b m s t a1 len1 cap1, a = some ⟨bl, o, none⟩ ∧ VT.Six w bl o k b m s t a1 len1 cap1 ∧ (k == 4) = false ∧ l.length = 1) (hr : (rowT a cap l).In w) (hall : (l.all fun v => kdV v == 2) = true) (hok : ∀ v ∈ l, v.okB 2 = true) :
  Calls Tryz.prog 87 #[.string ⟨([109, 97, 120]).toArray⟩, .slice a l.length cap] w fun e w' => e = .returned (Tup (furV 1 l, 0)) ∧ Below w.heap.size w w' := by
 have b0 := bZ w
 have O0 := Own.new w 32
 have AL := hide (fun w h => all_any 2 a cap l w h)
 rw [hall] at AL
 have FU := hide (fun w h => fur_any a cap l 1 w h (isB_all hall hok))
 obtain ⟨K, BB, M', SS, TT, eV⟩ := (lf_fur 1 l).val
 have EV := hide eV
 unfold Tup
 rw [eV]
 clear eV hall hok
 have hr1 := hide (hr.below b0)
 clear hr
 rcases h1 with e1 | ⟨bl, o, k, b, m, s, t, a1, len1, cap1, rfl, ⟨s0, s1, s2, s3, s4, s5, s6⟩, hk, hl1⟩
 ·go_enter Tryz.func87, Tryz.ntmps87
  go_wp2_with fail
  refine (unhide AL _ (unhide hr1)).mono ?_
  rintro e w1 ⟨rfl, k1⟩
  have O1 := O0.below k1
  have B1 := bstep b0 k1
  have hr2 := hide ((unhide hr1).below k1)
  clear k1 O0 b0 hr1
  go_wp2_with fail
  refine (unhide FU _ (unhide hr2)).mono ?_
  rintro e w2 ⟨rfl, k2⟩
  have O2 := O1.below k2
  have B2 := bstep B1 k2
  clear k2 O1 B1 hr2
  rw [unhide EV]
  obtain ⟨u0, t0, t1, t2, t3, t4, t5, f0, f1, f2, f3, f4, f5⟩ := Own.fl O2
  try unfold lfv
  go_wp2_with fail
  exact bodyPost_ret (v := .tuple #[lfv K BB M' SS TT, .int .i64 0]) zR87lt0t1t2t3t4t5 rfl ⟨rfl, zBL⟩
 ·have e1 : ((l.length : Int) == 1) = true := by simp; omega
  have hl0 : 0 < l.length := by omega
  clear hl1
  go_enter Tryz.func87, Tryz.ntmps87
  go_wp2_with fail
  refine (unhide AL _ (unhide hr1)).mono ?_
  rintro e w1 ⟨rfl, k1⟩
  have O1 := O0.below k1
  have B1 := bstep b0 k1
  have hr2 := hide ((unhide hr1).below k1)
  clear k1 O0 b0 hr1
  go_wp2_with fail
  refine (unhide FU _ (unhide hr2)).mono ?_
  rintro e w2 ⟨rfl, k2⟩
  have O2 := O1.below k2
  have B2 := bstep B1 k2
  clear k2 O1 B1 hr2
  rw [unhide EV]
  obtain ⟨u0, t0, t1, t2, t3, t4, t5, f0, f1, f2, f3, f4, f5⟩ := Own.fl O2
  try unfold lfv
  go_wp2_with fail
  exact bodyPost_ret (v := .tuple #[lfv K BB M' SS TT, .int .i64 0]) zR87lt0t1t2t3t4t5 rfl ⟨rfl, zBL⟩
theorem overR_sum (nm : List UInt8) (q1 : (nm == [109, 105, 110]) = false) (q2 : (nm == [109, 97, 120]) = false) (a : Option Addr) (cap : Nat) (l : List VT) (w : World) (e0 : ((l.length : Int) == 0) = false) (h1 : ((l.length : Int) == 1) = false ∨ ∃ bl o k b m s t a1 len1 cap1, a = some ⟨bl, o, none⟩ ∧ VT.Six w bl o k b m s t a1 len1 cap1 ∧ (k == 4) = false ∧ l.length = 1) (hr : (rowT a cap l).In w) (hall : (l.all fun v => kdV v == 2) = true) (hok : ∀ v ∈ l, v.okB 2 = true) :
  Calls Tryz.prog 87 #[.string ⟨(nm).toArray⟩, .slice a l.length cap] w fun e w' => e = .returned (Tup (sumT l (0, 0))) ∧ Below w.heap.size w w' := by
 have b0 := bZ w
 have O0 := Own.new w 32
 have AL := hide (fun w h => all_any 2 a cap l w h)
 rw [hall] at AL
 have FU := hide (fun w h => sum_any a cap l w h (isB_all hall hok))
 obtain ⟨K, BB, M', SS, TT, eV⟩ := tup_lf (lf_sum l (0, 0))
 have EV := hide eV
 rw [eV]
 generalize hE2 : (sumT l (0, 0)).2 = E2 at *
 clear eV hall hok hE2
 have hr1 := hide (hr.below b0)
 clear hr
 rcases h1 with e1 | ⟨bl, o, k, b, m, s, t, a1, len1, cap1, rfl, ⟨s0, s1, s2, s3, s4, s5, s6⟩, hk, hl1⟩
 ·go_enter Tryz.func87, Tryz.ntmps87
  go_wp2_with fail
  refine (unhide AL _ (unhide hr1)).mono ?_
  rintro e w1 ⟨rfl, k1⟩
  have O1 := O0.below k1
  have B1 := bstep b0 k1
  have hr2 := hide ((unhide hr1).below k1)
  clear k1 O0 b0 hr1
  go_wp2_with fail
  refine (unhide FU _ (unhide hr2)).mono ?_
  rintro e w2 ⟨rfl, k2⟩
  have O2 := O1.below k2
  have B2 := bstep B1 k2
  clear k2 O1 B1 hr2
  rw [unhide EV]
  obtain ⟨u0, t0, t1, t2, t3, t4, t5, f0, f1, f2, f3, f4, f5⟩ := Own.fl O2
  try unfold lfv
  go_wp2_with fail
  exact bodyPost_ret (v := .tuple #[lfv K BB M' SS TT, .int .i64 E2]) zR87lt0t1t2t3t4t5 rfl ⟨rfl, zBL⟩
 ·have e1 : ((l.length : Int) == 1) = true := by simp; omega
  have hl0 : 0 < l.length := by omega
  clear hl1
  go_enter Tryz.func87, Tryz.ntmps87
  go_wp2_with fail
  refine (unhide AL _ (unhide hr1)).mono ?_
  rintro e w1 ⟨rfl, k1⟩
  have O1 := O0.below k1
  have B1 := bstep b0 k1
  have hr2 := hide ((unhide hr1).below k1)
  clear k1 O0 b0 hr1
  go_wp2_with fail
  refine (unhide FU _ (unhide hr2)).mono ?_
  rintro e w2 ⟨rfl, k2⟩
  have O2 := O1.below k2
  have B2 := bstep B1 k2
  clear k2 O1 B1 hr2
  rw [unhide EV]
  obtain ⟨u0, t0, t1, t2, t3, t4, t5, f0, f1, f2, f3, f4, f5⟩ := Own.fl O2
  try unfold lfv
  go_wp2_with fail
  exact bodyPost_ret (v := .tuple #[lfv K BB M' SS TT, .int .i64 E2]) zR87lt0t1t2t3t4t5 rfl ⟨rfl, zBL⟩
theorem over_row (nm : List UInt8) (P : Array Value) (l : List VT) (w : World) (hok : ∀ v ∈ l, v.okB 2 = true)
  (h1 : (l.all fun v => kdV v == 2) = false → Calls Tryz.prog 87 P w fun e w' => e = .returned (.tuple #[lfv 0 false 0 0 ⟨#[]⟩, .int .i64 0]) ∧ Below w.heap.size w w')
  (h2 : (l.all fun v => kdV v == 2) = true → nm = [109, 105, 110] → Calls Tryz.prog 87 P w fun e w' => e = .returned (Tup (furV (-1) l, 0)) ∧ Below w.heap.size w w')
  (h3 : (l.all fun v => kdV v == 2) = true → nm = [109, 97, 120] → Calls Tryz.prog 87 P w fun e w' => e = .returned (Tup (furV 1 l, 0)) ∧ Below w.heap.size w w')
  (h4 : (l.all fun v => kdV v == 2) = true → (nm == [109, 105, 110]) = false → (nm == [109, 97, 120]) = false → Calls Tryz.prog 87 P w fun e w' => e = .returned (Tup (sumT l (0, 0))) ∧ Below w.heap.size w w') :
  Calls Tryz.prog 87 P w fun e w' => e = .returned (Tup (ovT nm l)) ∧ Below w.heap.size w w' := by
 unfold ovT
 cases hall : (l.all fun v => kdV v == 2)
 ·rw [if_pos rfl]; exact h1 hall
 rw [if_neg (by simp)]
 by_cases e1 : nm = [109, 105, 110]
 ·rw [if_pos e1]; exact h2 hall e1
 rw [if_neg e1]
 by_cases e2 : nm = [109, 97, 120]
 ·rw [if_pos e2]; exact h3 hall e2
 rw [if_neg e2]
 exact h4 hall (by simpa using e1) (by simpa using e2)
theorem over_any (nm : List UInt8) (a : Option Addr) (cap : Nat) (l : List VT) (w : World) (hin : (rowT a cap l).In w) (hok : ∀ v ∈ l, v.okB 2 = true) :
  Calls Tryz.prog 87 #[.string ⟨nm.toArray⟩, .slice a l.length cap] w fun e w' => e = .returned (Tup (overT nm l)) ∧ Below w.heap.size w w' := by
 unfold overT
 by_cases h0 : l = []
 ·rw [if_pos h0]
  subst h0
  go_enter Tryz.func87, Tryz.ntmps87
  go_wp2_with fail
  exact bodyPost_ret (v := .tuple #[lfv 0 false 0 0 ⟨#[]⟩, .int .i64 0]) (by simp [results, Tryz.results87, go_sem, lfv]) rfl ⟨rfl, zBL⟩
 rw [if_neg h0]
 have e0 : ((l.length : Int) == 0) = false := by have := List.length_pos_iff.2 h0; simp; omega
 have hlm : l.length ≤ maxLen := by have := hin.1; omega
 by_cases hl : l.length = 1
 ·obtain ⟨x, rfl⟩ := List.length_eq_one_iff.1 hl
  obtain ⟨bl, o, k, b, m, s, t, a1, len, cap1, kid, rfl, hx, six, hk⟩ := hin.kid (i := 0) (by simp)
  obtain rfl : x = .mk k b m s t a1 len cap1 kid := by simpa using hx
  rw [show o + 0 * 6 = o by omega] at six
  by_cases h4 : k = 4
  ·subst h4
   have e : oneL [VT.mk 4 b m s t a1 len cap1 kid] = some ((List.range len).map kid) := rfl
   rw [e, Option.getD_some]
   have hl2 := okB_list (hok _ (by simp : VT.mk 4 b m s t a1 len cap1 kid ∈ [VT.mk 4 b m s t a1 len cap1 kid]))
   have hok2 : ∀ v ∈ (List.range len).map kid, v.okB 2 = true := fun v hv => by
    simp only [List.mem_map, List.mem_range] at hv
    obtain ⟨i, hi, rfl⟩ := hv
    exact okB_up (hl2.2 i hi)
   have hr := rowT_of hk
   have eL : ((List.range len).map kid).length = len := by simp
   have six' : VT.Six w bl o 4 b m s t a1 ((List.range len).map kid).length cap1 := by rw [eL]; exact six
   generalize (List.range len).map kid = l2 at *
   refine over_row nm _ l2 w hok2 (fun h => ?_) (fun h e => ?_) (fun h e => ?_) (fun h q1 q2 => ?_)
   ·exact overL_no nm bl o cap b m s t a1 cap1 l2 w six' hr h
   ·subst e; exact overL_min bl o cap b m s t a1 cap1 l2 w six' hr h hok2
   ·subst e; exact overL_max bl o cap b m s t a1 cap1 l2 w six' hr h hok2
   ·exact overL_sum nm q1 q2 bl o cap b m s t a1 cap1 l2 w six' hr h hok2
  ·have e : oneL [VT.mk k b m s t a1 len cap1 kid] = none := by show (if k = 4 then _ else _) = _; rw [if_neg h4]
   rw [e, Option.getD_none]
   have H1 : (((([VT.mk k b m s t a1 len cap1 kid] : List VT).length : Int) == 1) = false ∨ ∃ bl' o' k b m s t a1 len1 cap1, some (⟨bl, o, none⟩ : Addr) = some ⟨bl', o', none⟩ ∧ VT.Six w bl' o' k b m s t a1 len1 cap1 ∧ (k == 4) = false ∧ ([VT.mk k b m s t a1 len cap1 kid] : List VT).length = 1) := .inr ⟨bl, o, k, b, m, s, t, a1, len, cap1, rfl, six, by simpa using h4, rfl⟩
   refine over_row nm _ _ w hok (fun h => ?_) (fun h e => ?_) (fun h e => ?_) (fun h q1 q2 => ?_)
   ·exact overR_no nm _ cap _ w e0 H1 hin h
   ·subst e; exact overR_min _ cap _ w e0 H1 hin h hok
   ·subst e; exact overR_max _ cap _ w e0 H1 hin h hok
   ·exact overR_sum nm q1 q2 _ cap _ w e0 H1 hin h hok
 ·have e : oneL l = none := by
   match l, hl with
   | [], _ => rfl
   | [x], h => exact absurd rfl h
   | x :: y :: l, _ => rfl
  rw [e, Option.getD_none]
  have H1 : ((l.length : Int) == 1) = false := by simp; omega
  refine over_row nm _ _ w hok (fun h => ?_) (fun h e => ?_) (fun h e => ?_) (fun h q1 q2 => ?_)
  ·exact overR_no nm _ cap _ w e0 (.inl H1) hin h
  ·subst e; exact overR_min _ cap _ w e0 (.inl H1) hin h hok
  ·subst e; exact overR_max _ cap _ w e0 (.inl H1) hin h hok
  ·exact overR_sum nm q1 q2 _ cap _ w e0 (.inl H1) hin h hok
theorem call_cat (a : Option Addr) (cap : Nat) (l : List VT) (w : World) (hin : (rowT a cap l).In w) (hok : ∀ v ∈ l, v.okB 2 = true) :
  Calls Tryz.prog 54 #[.string ⟨([99, 97, 116]).toArray⟩, .slice a l.length cap] w fun e w' => e = .returned (Tup (catT l)) ∧ Below w.heap.size w w' := by
 have b0 := bZ w
 have O0 := Own.new w 32
 have CV := hide (fun w h => cat_any a cap l w h hok)
 obtain ⟨K, BB, M', SS, TT, eV⟩ := tup_lf (lf_cat l)
 have EV := hide eV
 rw [eV]
 generalize hE2 : (catT l).2 = E2 at *
 have hr1 := hin.below b0
 clear eV hE2 hok hin
 go_enter Tryz.func54, Tryz.ntmps54
 go_wp2_with fail
 refine (unhide CV _ hr1).mono ?_
 rintro e w1 ⟨rfl, k1⟩
 have O1 := O0.below k1
 have B1 := bstep b0 k1
 clear k1 O0 b0 hr1
 rw [unhide EV]
 obtain ⟨u0, t0, t1, t2, t3, t4, t5, f0, f1, f2, f3, f4, f5⟩ := Own.fl O1
 try unfold lfv
 go_wp2_with fail
 exact bodyPost_ret (v := .tuple #[lfv K BB M' SS TT, .int .i64 E2]) zR54lt0t1t2t3t4t5 rfl ⟨rfl, zBL⟩
theorem call_min (a : Option Addr) (cap : Nat) (l : List VT) (w : World) (hin : (rowT a cap l).In w) (hok : ∀ v ∈ l, v.okB 2 = true) :
  Calls Tryz.prog 54 #[.string ⟨([109, 105, 110]).toArray⟩, .slice a l.length cap] w fun e w' => e = .returned (Tup (overT [109, 105, 110] l)) ∧ Below w.heap.size w w' := by
 have b0 := bZ w
 have O0 := Own.new w 32
 have CV := hide (fun w h => over_any [109, 105, 110] a cap l w h hok)
 obtain ⟨K, BB, M', SS, TT, eV⟩ := tup_lf (lf_over [109, 105, 110] l)
 have EV := hide eV
 rw [eV]
 generalize hE2 : (overT [109, 105, 110] l).2 = E2 at *
 have hr1 := hin.below b0
 clear eV hE2 hok hin
 go_enter Tryz.func54, Tryz.ntmps54
 go_wp2_with fail
 refine (unhide CV _ hr1).mono ?_
 rintro e w1 ⟨rfl, k1⟩
 have O1 := O0.below k1
 have B1 := bstep b0 k1
 clear k1 O0 b0 hr1
 rw [unhide EV]
 obtain ⟨u0, t0, t1, t2, t3, t4, t5, f0, f1, f2, f3, f4, f5⟩ := Own.fl O1
 try unfold lfv
 go_wp2_with fail
 exact bodyPost_ret (v := .tuple #[lfv K BB M' SS TT, .int .i64 E2]) zR54lt0t1t2t3t4t5 rfl ⟨rfl, zBL⟩
theorem call_max (a : Option Addr) (cap : Nat) (l : List VT) (w : World) (hin : (rowT a cap l).In w) (hok : ∀ v ∈ l, v.okB 2 = true) :
  Calls Tryz.prog 54 #[.string ⟨([109, 97, 120]).toArray⟩, .slice a l.length cap] w fun e w' => e = .returned (Tup (overT [109, 97, 120] l)) ∧ Below w.heap.size w w' := by
 have b0 := bZ w
 have O0 := Own.new w 32
 have CV := hide (fun w h => over_any [109, 97, 120] a cap l w h hok)
 obtain ⟨K, BB, M', SS, TT, eV⟩ := tup_lf (lf_over [109, 97, 120] l)
 have EV := hide eV
 rw [eV]
 generalize hE2 : (overT [109, 97, 120] l).2 = E2 at *
 have hr1 := hin.below b0
 clear eV hE2 hok hin
 go_enter Tryz.func54, Tryz.ntmps54
 go_wp2_with fail
 refine (unhide CV _ hr1).mono ?_
 rintro e w1 ⟨rfl, k1⟩
 have O1 := O0.below k1
 have B1 := bstep b0 k1
 clear k1 O0 b0 hr1
 rw [unhide EV]
 obtain ⟨u0, t0, t1, t2, t3, t4, t5, f0, f1, f2, f3, f4, f5⟩ := Own.fl O1
 try unfold lfv
 go_wp2_with fail
 exact bodyPost_ret (v := .tuple #[lfv K BB M' SS TT, .int .i64 E2]) zR54lt0t1t2t3t4t5 rfl ⟨rfl, zBL⟩
theorem call_sum (a : Option Addr) (cap : Nat) (l : List VT) (w : World) (hin : (rowT a cap l).In w) (hok : ∀ v ∈ l, v.okB 2 = true) :
  Calls Tryz.prog 54 #[.string ⟨([115, 117, 109]).toArray⟩, .slice a l.length cap] w fun e w' => e = .returned (Tup (overT [115, 117, 109] l)) ∧ Below w.heap.size w w' := by
 have b0 := bZ w
 have O0 := Own.new w 32
 have CV := hide (fun w h => over_any [115, 117, 109] a cap l w h hok)
 obtain ⟨K, BB, M', SS, TT, eV⟩ := tup_lf (lf_over [115, 117, 109] l)
 have EV := hide eV
 rw [eV]
 generalize hE2 : (overT [115, 117, 109] l).2 = E2 at *
 have hr1 := hin.below b0
 clear eV hE2 hok hin
 go_enter Tryz.func54, Tryz.ntmps54
 go_wp2_with fail
 refine (unhide CV _ hr1).mono ?_
 rintro e w1 ⟨rfl, k1⟩
 have O1 := O0.below k1
 have B1 := bstep b0 k1
 clear k1 O0 b0 hr1
 rw [unhide EV]
 obtain ⟨u0, t0, t1, t2, t3, t4, t5, f0, f1, f2, f3, f4, f5⟩ := Own.fl O1
 try unfold lfv
 go_wp2_with fail
 exact bodyPost_ret (v := .tuple #[lfv K BB M' SS TT, .int .i64 E2]) zR54lt0t1t2t3t4t5 rfl ⟨rfl, zBL⟩
theorem lf_fix (nm : List UInt8) (l : List VT) : LF (fixT nm l) := by
 match l with
 | [] => exact lf_nil
 | [x] => exact lf_one _ _
 | [x, y] => exact lf_two _ _ _
 | x :: y :: z :: l => exact lf_nil
theorem call_fix (nm : List UInt8) (q1 : (nm == [99, 97, 116]) = false) (q2 : (nm == [109, 105, 110]) = false) (q3 : (nm == [109, 97, 120]) = false) (q4 : (nm == [115, 117, 109]) = false) (a : Option Addr) (cap : Nat) (l : List VT) (w : World) (hin : (rowT a cap l).In w) (hok : ∀ v ∈ l, v.okB 2 = true) :
  Calls Tryz.prog 54 #[.string ⟨nm.toArray⟩, .slice a l.length cap] w fun e w' => e = .returned (Tup (fixT nm l, 0)) ∧ Below w.heap.size w w' := by
 have b0 := bZ w
 have O0 := Own.new w 32
 have CV := hide (fun w h => fixed_any nm a cap l w hok h)
 obtain ⟨K, BB, M', SS, TT, eV⟩ := (lf_fix nm l).val
 have EV := hide eV
 unfold Tup
 rw [eV]
 have hr1 := hin.below b0
 clear eV hok hin
 go_enter Tryz.func54, Tryz.ntmps54
 go_wp2_with fail
 refine (unhide CV _ hr1).mono ?_
 rintro e w1 ⟨rfl, k1⟩
 have O1 := O0.below k1
 have B1 := bstep b0 k1
 clear k1 O0 b0 hr1
 rw [unhide EV]
 obtain ⟨u0, t0, t1, t2, t3, t4, t5, f0, f1, f2, f3, f4, f5⟩ := Own.fl O1
 try unfold lfv
 go_wp2_with fail
 exact bodyPost_ret (v := .tuple #[lfv K BB M' SS TT, .int .i64 0]) zR54lt0t1t2t3t4t5 rfl ⟨rfl, zBL⟩
theorem call_any (nm : List UInt8) (a : Option Addr) (cap : Nat) (l : List VT) (w : World) (hin : (rowT a cap l).In w) (hok : ∀ v ∈ l, v.okB 2 = true) :
  Calls Tryz.prog 54 #[.string ⟨nm.toArray⟩, .slice a l.length cap] w fun e w' => e = .returned (Tup (callT nm l)) ∧ Below w.heap.size w w' := by
 unfold callT
 by_cases h1 : nm = [99, 97, 116]
 ·subst h1; rw [if_pos rfl]; exact call_cat a cap l w hin hok
 rw [if_neg h1]
 by_cases h2 : nm = [109, 105, 110]
 ·subst h2; rw [if_pos (.inl rfl)]; exact call_min a cap l w hin hok
 by_cases h3 : nm = [109, 97, 120]
 ·subst h3; rw [if_pos (.inr (.inl rfl))]; exact call_max a cap l w hin hok
 by_cases h4 : nm = [115, 117, 109]
 ·subst h4; rw [if_pos (.inr (.inr rfl))]; exact call_sum a cap l w hin hok
 rw [if_neg (by simp [h2, h3, h4])]
 exact call_fix nm (by simpa using h1) (by simpa using h2) (by simpa using h3) (by simpa using h4) a cap l w hin hok
theorem lf_call (nm : List UInt8) (l : List VT) : LF (callT nm l).1 := by
 unfold callT
 split
 ·exact lf_cat _
 split
 ·exact lf_over _ _
 ·exact lf_fix _ _
end Go.Proofs.YtfdimdjmnfdecaaGreat

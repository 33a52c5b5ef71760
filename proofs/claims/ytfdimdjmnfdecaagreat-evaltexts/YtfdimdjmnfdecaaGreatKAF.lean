/- EOne EMod ETwo EFix: laid together. -/
import Derived.Test.YtfdimdjmnfdecaaGreatKAE
import Derived.Deep.RegionHeld3
import Derived.Deep.DrawnRows
set_option linter.unusedVariables false
set_option linter.unusedSimpArgs false
set_option maxHeartbeats 8000000
namespace Go.Proofs.YtfdimdjmnfdecaaGreat
open Go.RowKit
section
open VT (leaf mkV)
theorem okB_num {b : Bool} {m s : Int} {t : ByteArray} {a : Option Addr} {len cap : Nat} {kid : Nat → VT} {n : Nat} (h : (VT.mk 2 b m s t a len cap kid).okB n = true) : isB m s = true := by
 rcases (okB_kind h).2 with h | h | h | h | h
 ·omega
 ·omega
 ·exact h.2
 ·omega
 ·omega
theorem one_not (k : Int) (b : Bool) (m s : Int) (t : ByteArray) (a : Option Addr) (len cap : Nat) (w : World) :
  Calls Tryz.prog 127 #[.string ⟨([110, 111, 116]).toArray⟩, .agg #[.int .i64 k, .bool b, .int .i64 m, .int .i64 s, .string t, .slice a len cap]] w fun e w' => e = .returned (lfv (notK k) (notB k b) 0 0 ⟨#[]⟩) ∧ Below w.heap.size w w' := by
 have BT := boxes1 w k b m s t a len cap
 go_enter Tryz.func127, Tryz.ntmps127
 go_wp2_with fail
 generalize ((w.alloc (Obj.cells #[.int .i64 k, .bool b, .int .i64 m, .int .i64 s, .string t, .slice a len cap] 32)).alloc (Obj.cells #[.int .i64 0, .bool false, .int .i64 0, .int .i64 0, .string ⟨#[]⟩, .slice none 0 0] 32)) = V at *
 obtain ⟨X0, O0, B0, z0⟩ := BT
 obtain ⟨x0, x1, x2, x3, x4, x5, x6⟩ := sixfl X0
 clear z0
 refine (not_any _ _ _ _ _ _ _ _ _).mono ?_
 rintro e w1 ⟨rfl, k1⟩
 have X1 := VT.Six.below X0 k1
 have O1 := Own.below O0 k1
 have B1 := bstep B0 k1
 clear k1 X0 O0 B0 x0 x1 x2 x3 x4 x5 x6
 obtain ⟨x0, x1, x2, x3, x4, x5, x6⟩ := sixfl X1
 unfold tval
 obtain ⟨u0, t0, t1, t2, t3, t4, t5, f0, f1, f2, f3, f4, f5⟩ := Own.fl O1
 go_wp2_with fail
 exact bodyPost_ret (v := lfv (notK k) (notB k b) 0 0 ⟨#[]⟩) zR127lt0t1t2t3t4t5 rfl ⟨rfl, zBL⟩
theorem one_absn (k : Int) (b : Bool) (m s : Int) (t : ByteArray) (a : Option Addr) (len cap : Nat) (w : World) (hk : k = 2) (m1 : -1000000000 ≤ m) (m2 : m ≤ 1000000000) (hm : m < -m) :
  Calls Tryz.prog 127 #[.string ⟨([97, 98, 115]).toArray⟩, .agg #[.int .i64 k, .bool b, .int .i64 m, .int .i64 s, .string t, .slice a len cap]] w fun e w' => e = .returned (lfv 2 false (-m) s ⟨#[]⟩) ∧ Below w.heap.size w w' := by
 subst hk
 have BT := boxes1 w 2 b m s t a len cap
 go_enter Tryz.func127, Tryz.ntmps127
 go_wp2_with fail
 generalize ((w.alloc (Obj.cells #[.int .i64 2, .bool b, .int .i64 m, .int .i64 s, .string t, .slice a len cap] 32)).alloc (Obj.cells #[.int .i64 0, .bool false, .int .i64 0, .int .i64 0, .string ⟨#[]⟩, .slice none 0 0] 32)) = V at *
 obtain ⟨X0, O0, B0, z0⟩ := BT
 obtain ⟨x0, x1, x2, x3, x4, x5, x6⟩ := sixfl X0
 clear z0
 refine (enumber_any _ _ _).mono ?_
 rintro e w1 ⟨rfl, k1⟩
 have X1 := VT.Six.below X0 k1
 have O1 := Own.below O0 k1
 have B1 := bstep B0 k1
 clear k1 X0 O0 B0 x0 x1 x2 x3 x4 x5 x6
 obtain ⟨x0, x1, x2, x3, x4, x5, x6⟩ := sixfl X1
 unfold lfv
 obtain ⟨u0, t0, t1, t2, t3, t4, t5, f0, f1, f2, f3, f4, f5⟩ := Own.fl O1
 go_wp2_with fail
 exact bodyPost_ret (v := lfv 2 false (-m) s ⟨#[]⟩) zR127lt0t1t2t3t4t5 rfl ⟨rfl, zBL⟩
theorem one_absp (k : Int) (b : Bool) (m s : Int) (t : ByteArray) (a : Option Addr) (len cap : Nat) (w : World) (hk : k = 2) (m1 : -1000000000 ≤ m) (m2 : m ≤ 1000000000) (hm : ¬ m < -m) :
  Calls Tryz.prog 127 #[.string ⟨([97, 98, 115]).toArray⟩, .agg #[.int .i64 k, .bool b, .int .i64 m, .int .i64 s, .string t, .slice a len cap]] w fun e w' => e = .returned (lfv 2 false m s ⟨#[]⟩) ∧ Below w.heap.size w w' := by
 subst hk
 have BT := boxes1 w 2 b m s t a len cap
 go_enter Tryz.func127, Tryz.ntmps127
 go_wp2_with fail
 generalize ((w.alloc (Obj.cells #[.int .i64 2, .bool b, .int .i64 m, .int .i64 s, .string t, .slice a len cap] 32)).alloc (Obj.cells #[.int .i64 0, .bool false, .int .i64 0, .int .i64 0, .string ⟨#[]⟩, .slice none 0 0] 32)) = V at *
 obtain ⟨X0, O0, B0, z0⟩ := BT
 obtain ⟨x0, x1, x2, x3, x4, x5, x6⟩ := sixfl X0
 clear z0
 refine (enumber_any _ _ _).mono ?_
 rintro e w1 ⟨rfl, k1⟩
 have X1 := VT.Six.below X0 k1
 have O1 := Own.below O0 k1
 have B1 := bstep B0 k1
 clear k1 X0 O0 B0 x0 x1 x2 x3 x4 x5 x6
 obtain ⟨x0, x1, x2, x3, x4, x5, x6⟩ := sixfl X1
 unfold lfv
 obtain ⟨u0, t0, t1, t2, t3, t4, t5, f0, f1, f2, f3, f4, f5⟩ := Own.fl O1
 go_wp2_with fail
 exact bodyPost_ret (v := lfv 2 false m s ⟨#[]⟩) zR127lt0t1t2t3t4t5 rfl ⟨rfl, zBL⟩
theorem one_floor (k : Int) (b : Bool) (m s : Int) (t : ByteArray) (a : Option Addr) (len cap : Nat) (w : World) (hk : k = 2) (hi : isB m s = true) :
  Calls Tryz.prog 127 #[.string ⟨([102, 108, 111, 111, 114]).toArray⟩, .agg #[.int .i64 k, .bool b, .int .i64 m, .int .i64 s, .string t, .slice a len cap]] w fun e w' => e = .returned (lfv 2 false (m / p10 s.toNat) 0 ⟨#[]⟩) ∧ Below w.heap.size w w' := by
 subst hk
 have FL := hide (fun w => flr_any m s w hi)
 generalize m / p10 s.toNat = R at *
 clear hi
 have BT := boxes1 w 2 b m s t a len cap
 go_enter Tryz.func127, Tryz.ntmps127
 go_wp2_with fail
 generalize ((w.alloc (Obj.cells #[.int .i64 2, .bool b, .int .i64 m, .int .i64 s, .string t, .slice a len cap] 32)).alloc (Obj.cells #[.int .i64 0, .bool false, .int .i64 0, .int .i64 0, .string ⟨#[]⟩, .slice none 0 0] 32)) = V at *
 obtain ⟨X0, O0, B0, z0⟩ := BT
 obtain ⟨x0, x1, x2, x3, x4, x5, x6⟩ := sixfl X0
 clear z0
 refine (unhide FL _).mono ?_
 rintro e w1 ⟨rfl, k1⟩
 have X1 := VT.Six.below X0 k1
 have O1 := Own.below O0 k1
 have B1 := bstep B0 k1
 clear k1 X0 O0 B0 x0 x1 x2 x3 x4 x5 x6
 obtain ⟨x0, x1, x2, x3, x4, x5, x6⟩ := sixfl X1
 go_wp2_with fail
 refine (enumber_any _ _ _).mono ?_
 rintro e w2 ⟨rfl, k2⟩
 have X2 := VT.Six.below X1 k2
 have O2 := Own.below O1 k2
 have B2 := bstep B1 k2
 clear k2 X1 O1 B1 x0 x1 x2 x3 x4 x5 x6
 obtain ⟨x0, x1, x2, x3, x4, x5, x6⟩ := sixfl X2
 unfold lfv
 obtain ⟨u0, t0, t1, t2, t3, t4, t5, f0, f1, f2, f3, f4, f5⟩ := Own.fl O2
 go_wp2_with fail
 exact bodyPost_ret (v := lfv 2 false R 0 ⟨#[]⟩) zR127lt0t1t2t3t4t5 rfl ⟨rfl, zBL⟩
theorem one_ceil (k : Int) (b : Bool) (m s : Int) (t : ByteArray) (a : Option Addr) (len cap : Nat) (w : World) (hk : k = 2) (hi : isB m s = true) :
  Calls Tryz.prog 127 #[.string ⟨([99, 101, 105, 108]).toArray⟩, .agg #[.int .i64 k, .bool b, .int .i64 m, .int .i64 s, .string t, .slice a len cap]] w fun e w' => e = .returned (lfv 2 false (-(-m / p10 s.toNat)) 0 ⟨#[]⟩) ∧ Below w.heap.size w w' := by
 subst hk
 have FL := hide (fun w => ceil_any m s w hi)
 generalize -(-m / p10 s.toNat) = R at *
 clear hi
 have BT := boxes1 w 2 b m s t a len cap
 go_enter Tryz.func127, Tryz.ntmps127
 go_wp2_with fail
 generalize ((w.alloc (Obj.cells #[.int .i64 2, .bool b, .int .i64 m, .int .i64 s, .string t, .slice a len cap] 32)).alloc (Obj.cells #[.int .i64 0, .bool false, .int .i64 0, .int .i64 0, .string ⟨#[]⟩, .slice none 0 0] 32)) = V at *
 obtain ⟨X0, O0, B0, z0⟩ := BT
 obtain ⟨x0, x1, x2, x3, x4, x5, x6⟩ := sixfl X0
 clear z0
 refine (unhide FL _).mono ?_
 rintro e w1 ⟨rfl, k1⟩
 have X1 := VT.Six.below X0 k1
 have O1 := Own.below O0 k1
 have B1 := bstep B0 k1
 clear k1 X0 O0 B0 x0 x1 x2 x3 x4 x5 x6
 obtain ⟨x0, x1, x2, x3, x4, x5, x6⟩ := sixfl X1
 go_wp2_with fail
 refine (enumber_any _ _ _).mono ?_
 rintro e w2 ⟨rfl, k2⟩
 have X2 := VT.Six.below X1 k2
 have O2 := Own.below O1 k2
 have B2 := bstep B1 k2
 clear k2 X1 O1 B1 x0 x1 x2 x3 x4 x5 x6
 obtain ⟨x0, x1, x2, x3, x4, x5, x6⟩ := sixfl X2
 unfold lfv
 obtain ⟨u0, t0, t1, t2, t3, t4, t5, f0, f1, f2, f3, f4, f5⟩ := Own.fl O2
 go_wp2_with fail
 exact bodyPost_ret (v := lfv 2 false R 0 ⟨#[]⟩) zR127lt0t1t2t3t4t5 rfl ⟨rfl, zBL⟩
theorem one_len (k : Int) (b : Bool) (m s : Int) (t : ByteArray) (a : Option Addr) (len cap : Nat) (w : World) (hk : k = 3) (ht : t.size ≤ maxLen) :
  Calls Tryz.prog 127 #[.string ⟨([108, 101, 110]).toArray⟩, .agg #[.int .i64 k, .bool b, .int .i64 m, .int .i64 s, .string t, .slice a len cap]] w fun e w' => e = .returned (lfv 2 false t.size 0 ⟨#[]⟩) ∧ Below w.heap.size w w' := by
 subst hk
 unfold maxLen at ht
 have BT := boxes1 w 3 b m s t a len cap
 go_enter Tryz.func127, Tryz.ntmps127
 go_wp2_with fail
 generalize ((w.alloc (Obj.cells #[.int .i64 3, .bool b, .int .i64 m, .int .i64 s, .string t, .slice a len cap] 32)).alloc (Obj.cells #[.int .i64 0, .bool false, .int .i64 0, .int .i64 0, .string ⟨#[]⟩, .slice none 0 0] 32)) = V at *
 obtain ⟨X0, O0, B0, z0⟩ := BT
 obtain ⟨x0, x1, x2, x3, x4, x5, x6⟩ := sixfl X0
 clear z0
 refine (ewhole_any _ _).mono ?_
 rintro e w1 ⟨rfl, k1⟩
 have X1 := VT.Six.below X0 k1
 have O1 := Own.below O0 k1
 have B1 := bstep B0 k1
 clear k1 X0 O0 B0 x0 x1 x2 x3 x4 x5 x6
 obtain ⟨x0, x1, x2, x3, x4, x5, x6⟩ := sixfl X1
 unfold lfv
 obtain ⟨u0, t0, t1, t2, t3, t4, t5, f0, f1, f2, f3, f4, f5⟩ := Own.fl O1
 go_wp2_with fail
 exact bodyPost_ret (v := lfv 2 false t.size 0 ⟨#[]⟩) zR127lt0t1t2t3t4t5 rfl ⟨rfl, zBL⟩
theorem one_count (k : Int) (b : Bool) (m s : Int) (t : ByteArray) (a : Option Addr) (len cap : Nat) (w : World) (hk : k = 4) :
  Calls Tryz.prog 127 #[.string ⟨([99, 111, 117, 110, 116]).toArray⟩, .agg #[.int .i64 k, .bool b, .int .i64 m, .int .i64 s, .string t, .slice a len cap]] w fun e w' => e = .returned (lfv 2 false len 0 ⟨#[]⟩) ∧ Below w.heap.size w w' := by
 subst hk
 have BT := boxes1 w 4 b m s t a len cap
 go_enter Tryz.func127, Tryz.ntmps127
 go_wp2_with fail
 generalize ((w.alloc (Obj.cells #[.int .i64 4, .bool b, .int .i64 m, .int .i64 s, .string t, .slice a len cap] 32)).alloc (Obj.cells #[.int .i64 0, .bool false, .int .i64 0, .int .i64 0, .string ⟨#[]⟩, .slice none 0 0] 32)) = V at *
 obtain ⟨X0, O0, B0, z0⟩ := BT
 obtain ⟨x0, x1, x2, x3, x4, x5, x6⟩ := sixfl X0
 clear z0
 refine (ewhole_any _ _).mono ?_
 rintro e w1 ⟨rfl, k1⟩
 have X1 := VT.Six.below X0 k1
 have O1 := Own.below O0 k1
 have B1 := bstep B0 k1
 clear k1 X0 O0 B0 x0 x1 x2 x3 x4 x5 x6
 obtain ⟨x0, x1, x2, x3, x4, x5, x6⟩ := sixfl X1
 unfold lfv
 obtain ⟨u0, t0, t1, t2, t3, t4, t5, f0, f1, f2, f3, f4, f5⟩ := Own.fl O1
 go_wp2_with fail
 exact bodyPost_ret (v := lfv 2 false len 0 ⟨#[]⟩) zR127lt0t1t2t3t4t5 rfl ⟨rfl, zBL⟩
theorem one_noabs (k : Int) (b : Bool) (m s : Int) (t : ByteArray) (a : Option Addr) (len cap : Nat) (w : World) (hk : (k == 2) = false) :
  Calls Tryz.prog 127 #[.string ⟨([97, 98, 115]).toArray⟩, .agg #[.int .i64 k, .bool b, .int .i64 m, .int .i64 s, .string t, .slice a len cap]] w fun e w' => e = .returned (lfv 0 false 0 0 ⟨#[]⟩) ∧ Below w.heap.size w w' := by
 have BT := boxes1 w k b m s t a len cap
 go_enter Tryz.func127, Tryz.ntmps127
 go_wp2_with fail
 generalize ((w.alloc (Obj.cells #[.int .i64 k, .bool b, .int .i64 m, .int .i64 s, .string t, .slice a len cap] 32)).alloc (Obj.cells #[.int .i64 0, .bool false, .int .i64 0, .int .i64 0, .string ⟨#[]⟩, .slice none 0 0] 32)) = V at *
 obtain ⟨X0, O0, B0, z0⟩ := BT
 obtain ⟨x0, x1, x2, x3, x4, x5, x6⟩ := sixfl X0
 clear z0
 obtain ⟨u0, t0, t1, t2, t3, t4, t5, f0, f1, f2, f3, f4, f5⟩ := Own.fl O0
 go_wp2_with fail
 exact bodyPost_ret (v := lfv 0 false 0 0 ⟨#[]⟩) zR127lt0t1t2t3t4t5 rfl ⟨rfl, zBL⟩
theorem one_nofloor (k : Int) (b : Bool) (m s : Int) (t : ByteArray) (a : Option Addr) (len cap : Nat) (w : World) (hk : (k == 2) = false) :
  Calls Tryz.prog 127 #[.string ⟨([102, 108, 111, 111, 114]).toArray⟩, .agg #[.int .i64 k, .bool b, .int .i64 m, .int .i64 s, .string t, .slice a len cap]] w fun e w' => e = .returned (lfv 0 false 0 0 ⟨#[]⟩) ∧ Below w.heap.size w w' := by
 have BT := boxes1 w k b m s t a len cap
 go_enter Tryz.func127, Tryz.ntmps127
 go_wp2_with fail
 generalize ((w.alloc (Obj.cells #[.int .i64 k, .bool b, .int .i64 m, .int .i64 s, .string t, .slice a len cap] 32)).alloc (Obj.cells #[.int .i64 0, .bool false, .int .i64 0, .int .i64 0, .string ⟨#[]⟩, .slice none 0 0] 32)) = V at *
 obtain ⟨X0, O0, B0, z0⟩ := BT
 obtain ⟨x0, x1, x2, x3, x4, x5, x6⟩ := sixfl X0
 clear z0
 obtain ⟨u0, t0, t1, t2, t3, t4, t5, f0, f1, f2, f3, f4, f5⟩ := Own.fl O0
 go_wp2_with fail
 exact bodyPost_ret (v := lfv 0 false 0 0 ⟨#[]⟩) zR127lt0t1t2t3t4t5 rfl ⟨rfl, zBL⟩
theorem one_noceil (k : Int) (b : Bool) (m s : Int) (t : ByteArray) (a : Option Addr) (len cap : Nat) (w : World) (hk : (k == 2) = false) :
  Calls Tryz.prog 127 #[.string ⟨([99, 101, 105, 108]).toArray⟩, .agg #[.int .i64 k, .bool b, .int .i64 m, .int .i64 s, .string t, .slice a len cap]] w fun e w' => e = .returned (lfv 0 false 0 0 ⟨#[]⟩) ∧ Below w.heap.size w w' := by
 have BT := boxes1 w k b m s t a len cap
 go_enter Tryz.func127, Tryz.ntmps127
 go_wp2_with fail
 generalize ((w.alloc (Obj.cells #[.int .i64 k, .bool b, .int .i64 m, .int .i64 s, .string t, .slice a len cap] 32)).alloc (Obj.cells #[.int .i64 0, .bool false, .int .i64 0, .int .i64 0, .string ⟨#[]⟩, .slice none 0 0] 32)) = V at *
 obtain ⟨X0, O0, B0, z0⟩ := BT
 obtain ⟨x0, x1, x2, x3, x4, x5, x6⟩ := sixfl X0
 clear z0
 obtain ⟨u0, t0, t1, t2, t3, t4, t5, f0, f1, f2, f3, f4, f5⟩ := Own.fl O0
 go_wp2_with fail
 exact bodyPost_ret (v := lfv 0 false 0 0 ⟨#[]⟩) zR127lt0t1t2t3t4t5 rfl ⟨rfl, zBL⟩
theorem one_nolen (k : Int) (b : Bool) (m s : Int) (t : ByteArray) (a : Option Addr) (len cap : Nat) (w : World) (hk : (k == 3) = false) :
  Calls Tryz.prog 127 #[.string ⟨([108, 101, 110]).toArray⟩, .agg #[.int .i64 k, .bool b, .int .i64 m, .int .i64 s, .string t, .slice a len cap]] w fun e w' => e = .returned (lfv 0 false 0 0 ⟨#[]⟩) ∧ Below w.heap.size w w' := by
 have BT := boxes1 w k b m s t a len cap
 go_enter Tryz.func127, Tryz.ntmps127
 go_wp2_with fail
 generalize ((w.alloc (Obj.cells #[.int .i64 k, .bool b, .int .i64 m, .int .i64 s, .string t, .slice a len cap] 32)).alloc (Obj.cells #[.int .i64 0, .bool false, .int .i64 0, .int .i64 0, .string ⟨#[]⟩, .slice none 0 0] 32)) = V at *
 obtain ⟨X0, O0, B0, z0⟩ := BT
 obtain ⟨x0, x1, x2, x3, x4, x5, x6⟩ := sixfl X0
 clear z0
 obtain ⟨u0, t0, t1, t2, t3, t4, t5, f0, f1, f2, f3, f4, f5⟩ := Own.fl O0
 go_wp2_with fail
 exact bodyPost_ret (v := lfv 0 false 0 0 ⟨#[]⟩) zR127lt0t1t2t3t4t5 rfl ⟨rfl, zBL⟩
theorem one_nocount (k : Int) (b : Bool) (m s : Int) (t : ByteArray) (a : Option Addr) (len cap : Nat) (w : World) (hk : (k == 4) = false) :
  Calls Tryz.prog 127 #[.string ⟨([99, 111, 117, 110, 116]).toArray⟩, .agg #[.int .i64 k, .bool b, .int .i64 m, .int .i64 s, .string t, .slice a len cap]] w fun e w' => e = .returned (lfv 0 false 0 0 ⟨#[]⟩) ∧ Below w.heap.size w w' := by
 have BT := boxes1 w k b m s t a len cap
 go_enter Tryz.func127, Tryz.ntmps127
 go_wp2_with fail
 generalize ((w.alloc (Obj.cells #[.int .i64 k, .bool b, .int .i64 m, .int .i64 s, .string t, .slice a len cap] 32)).alloc (Obj.cells #[.int .i64 0, .bool false, .int .i64 0, .int .i64 0, .string ⟨#[]⟩, .slice none 0 0] 32)) = V at *
 obtain ⟨X0, O0, B0, z0⟩ := BT
 obtain ⟨x0, x1, x2, x3, x4, x5, x6⟩ := sixfl X0
 clear z0
 obtain ⟨u0, t0, t1, t2, t3, t4, t5, f0, f1, f2, f3, f4, f5⟩ := Own.fl O0
 go_wp2_with fail
 exact bodyPost_ret (v := lfv 0 false 0 0 ⟨#[]⟩) zR127lt0t1t2t3t4t5 rfl ⟨rfl, zBL⟩
theorem one_else (l : List UInt8) (q0 : (l == [110, 111, 116]) = false) (q1 : (l == [97, 98, 115]) = false) (q2 : (l == [102, 108, 111, 111, 114]) = false) (q3 : (l == [99, 101, 105, 108]) = false) (q4 : (l == [108, 101, 110]) = false) (q5 : (l == [99, 111, 117, 110, 116]) = false) (k : Int) (b : Bool) (m s : Int) (t : ByteArray) (a : Option Addr) (len cap : Nat) (w : World) :
  Calls Tryz.prog 127 #[.string ⟨(l).toArray⟩, .agg #[.int .i64 k, .bool b, .int .i64 m, .int .i64 s, .string t, .slice a len cap]] w fun e w' => e = .returned (lfv 0 false 0 0 ⟨#[]⟩) ∧ Below w.heap.size w w' := by
 have BT := boxes1 w k b m s t a len cap
 go_enter Tryz.func127, Tryz.ntmps127
 go_wp2_with fail
 generalize ((w.alloc (Obj.cells #[.int .i64 k, .bool b, .int .i64 m, .int .i64 s, .string t, .slice a len cap] 32)).alloc (Obj.cells #[.int .i64 0, .bool false, .int .i64 0, .int .i64 0, .string ⟨#[]⟩, .slice none 0 0] 32)) = V at *
 obtain ⟨X0, O0, B0, z0⟩ := BT
 obtain ⟨x0, x1, x2, x3, x4, x5, x6⟩ := sixfl X0
 clear z0
 obtain ⟨u0, t0, t1, t2, t3, t4, t5, f0, f1, f2, f3, f4, f5⟩ := Own.fl O0
 go_wp2_with fail
 exact bodyPost_ret (v := lfv 0 false 0 0 ⟨#[]⟩) zR127lt0t1t2t3t4t5 rfl ⟨rfl, zBL⟩
theorem eone_any (l : List UInt8) (x : VT) (w : World) (hx : x.okB 2 = true) (hin : x.In w) :
  Calls Tryz.prog 127 #[.string ⟨l.toArray⟩, x.val] w fun e w' => e = .returned (oneT l x).val ∧ Below w.heap.size w w' := by
 obtain ⟨k, b, m, s, t, a, len, cap, kid, rfl⟩ := hin.form
 obtain ⟨wk, wm, ws, ht, hlc, hcm⟩ := hin.1
 have hnum : k = 2 → isB m s = true := fun h => by subst h; exact okB_num hx
 unfold oneT
 show Calls Tryz.prog 127 #[.string ⟨l.toArray⟩, .agg #[.int .i64 k, .bool b, .int .i64 m, .int .i64 s, .string t, .slice a len cap]] w _
 have ek : kdV (VT.mk k b m s t a len cap kid) = k := rfl
 have em : mOf (VT.mk k b m s t a len cap kid) = m := rfl
 have es : sOf (VT.mk k b m s t a len cap kid) = s := rfl
 have et : tOf (VT.mk k b m s t a len cap kid) = t := rfl
 have el : (lOf (VT.mk k b m s t a len cap kid)).length = len := by simp [lOf]
 rw [ek, em, es, et, el]
 by_cases h0 : l = [110, 111, 116]
 ·subst h0; rw [if_pos rfl]; exact one_not k b m s t a len cap w
 rw [if_neg h0]
 by_cases h1 : l = [97, 98, 115]
 ·subst h1
  by_cases h : ([97, 98, 115] : List UInt8) = [97, 98, 115] ∧ k = 2
  ·rw [if_pos h]; have := isB_bd (hnum h.2); by_cases hm : m < -m; rw [show max m (-m) = -m by omega]; exact one_absn k b m s t a len cap w h.2 this.1 this.2.1 hm; rw [show max m (-m) = m by omega]; exact one_absp k b m s t a len cap w h.2 this.1 this.2.1 hm
  ·rw [if_neg h]
   rw [if_neg (show ¬ (([97, 98, 115] : List UInt8) = [102, 108, 111, 111, 114] ∧ k = 2) from fun h => absurd h.1 (by decide))]
   rw [if_neg (show ¬ (([97, 98, 115] : List UInt8) = [99, 101, 105, 108] ∧ k = 2) from fun h => absurd h.1 (by decide))]
   rw [if_neg (show ¬ (([97, 98, 115] : List UInt8) = [108, 101, 110] ∧ k = 3) from fun h => absurd h.1 (by decide))]
   rw [if_neg (show ¬ (([97, 98, 115] : List UInt8) = [99, 111, 117, 110, 116] ∧ k = 4) from fun h => absurd h.1 (by decide))]
   exact one_noabs k b m s t a len cap w (by have : ¬ k = 2 := fun e => h ⟨rfl, e⟩; simpa using this)
 rw [if_neg (show ¬ (l = [97, 98, 115] ∧ k = 2) from fun h => h1 h.1)]
 by_cases h2 : l = [102, 108, 111, 111, 114]
 ·subst h2
  by_cases h : ([102, 108, 111, 111, 114] : List UInt8) = [102, 108, 111, 111, 114] ∧ k = 2
  ·rw [if_pos h]; exact one_floor k b m s t a len cap w h.2 (hnum h.2)
  ·rw [if_neg h]
   rw [if_neg (show ¬ (([102, 108, 111, 111, 114] : List UInt8) = [99, 101, 105, 108] ∧ k = 2) from fun h => absurd h.1 (by decide))]
   rw [if_neg (show ¬ (([102, 108, 111, 111, 114] : List UInt8) = [108, 101, 110] ∧ k = 3) from fun h => absurd h.1 (by decide))]
   rw [if_neg (show ¬ (([102, 108, 111, 111, 114] : List UInt8) = [99, 111, 117, 110, 116] ∧ k = 4) from fun h => absurd h.1 (by decide))]
   exact one_nofloor k b m s t a len cap w (by have : ¬ k = 2 := fun e => h ⟨rfl, e⟩; simpa using this)
 rw [if_neg (show ¬ (l = [102, 108, 111, 111, 114] ∧ k = 2) from fun h => h2 h.1)]
 by_cases h3 : l = [99, 101, 105, 108]
 ·subst h3
  by_cases h : ([99, 101, 105, 108] : List UInt8) = [99, 101, 105, 108] ∧ k = 2
  ·rw [if_pos h]; exact one_ceil k b m s t a len cap w h.2 (hnum h.2)
  ·rw [if_neg h]
   rw [if_neg (show ¬ (([99, 101, 105, 108] : List UInt8) = [108, 101, 110] ∧ k = 3) from fun h => absurd h.1 (by decide))]
   rw [if_neg (show ¬ (([99, 101, 105, 108] : List UInt8) = [99, 111, 117, 110, 116] ∧ k = 4) from fun h => absurd h.1 (by decide))]
   exact one_noceil k b m s t a len cap w (by have : ¬ k = 2 := fun e => h ⟨rfl, e⟩; simpa using this)
 rw [if_neg (show ¬ (l = [99, 101, 105, 108] ∧ k = 2) from fun h => h3 h.1)]
 by_cases h4 : l = [108, 101, 110]
 ·subst h4
  by_cases h : ([108, 101, 110] : List UInt8) = [108, 101, 110] ∧ k = 3
  ·rw [if_pos h]; exact one_len k b m s t a len cap w h.2 ht
  ·rw [if_neg h]
   rw [if_neg (show ¬ (([108, 101, 110] : List UInt8) = [99, 111, 117, 110, 116] ∧ k = 4) from fun h => absurd h.1 (by decide))]
   exact one_nolen k b m s t a len cap w (by have : ¬ k = 3 := fun e => h ⟨rfl, e⟩; simpa using this)
 rw [if_neg (show ¬ (l = [108, 101, 110] ∧ k = 3) from fun h => h4 h.1)]
 by_cases h5 : l = [99, 111, 117, 110, 116]
 ·subst h5
  by_cases h : ([99, 111, 117, 110, 116] : List UInt8) = [99, 111, 117, 110, 116] ∧ k = 4
  ·rw [if_pos h]; exact one_count k b m s t a len cap w h.2
  ·rw [if_neg h]
   exact one_nocount k b m s t a len cap w (by have : ¬ k = 4 := fun e => h ⟨rfl, e⟩; simpa using this)
 rw [if_neg (show ¬ (l = [99, 111, 117, 110, 116] ∧ k = 4) from fun h => h5 h.1)]
 exact one_else l (by simpa using h0) (by simpa using h1) (by simpa using h2) (by simpa using h3) (by simpa using h4) (by simpa using h5) k b m s t a len cap w
end
section
open VT (leaf mkV)
theorem boxM (w : World) (m s n t : Int) :
  OwnD (((w.alloc (Obj.cells #[.int .i64 m, .int .i64 s] 23)).alloc (Obj.cells #[.int .i64 n, .int .i64 t] 23)).alloc (Obj.cells #[.int .i64 0, .bool false, .int .i64 0, .int .i64 0, .string ⟨#[]⟩, .slice none 0 0] 32)) w.heap.size m s ∧
  OwnD (((w.alloc (Obj.cells #[.int .i64 m, .int .i64 s] 23)).alloc (Obj.cells #[.int .i64 n, .int .i64 t] 23)).alloc (Obj.cells #[.int .i64 0, .bool false, .int .i64 0, .int .i64 0, .string ⟨#[]⟩, .slice none 0 0] 32)) (w.heap.size + 1) n t ∧
  Own (((w.alloc (Obj.cells #[.int .i64 m, .int .i64 s] 23)).alloc (Obj.cells #[.int .i64 n, .int .i64 t] 23)).alloc (Obj.cells #[.int .i64 0, .bool false, .int .i64 0, .int .i64 0, .string ⟨#[]⟩, .slice none 0 0] 32)) (w.heap.size + 1 + 1) ∧
  Below w.heap.size w (((w.alloc (Obj.cells #[.int .i64 m, .int .i64 s] 23)).alloc (Obj.cells #[.int .i64 n, .int .i64 t] 23)).alloc (Obj.cells #[.int .i64 0, .bool false, .int .i64 0, .int .i64 0, .string ⟨#[]⟩, .slice none 0 0] 32)) := by
 refine ⟨((OwnD.new w m s 23).below (below1 _ _)).below (below1 _ _), ?_, ?_, below3 _ _ _ _⟩
 ·have h := (OwnD.new (w.alloc (Obj.cells #[.int .i64 m, .int .i64 s] 23)) n t 23).below (below1 _ (Obj.cells #[.int .i64 0, .bool false, .int .i64 0, .int .i64 0, .string ⟨#[]⟩, .slice none 0 0] 32))
  simpa using h
 ·have h := Own.new ((w.alloc (Obj.cells #[.int .i64 m, .int .i64 s] 23)).alloc (Obj.cells #[.int .i64 n, .int .i64 t] 23)) 32
  simpa using h
theorem tmod_bd (m n : Int) (hn : n ≠ 0) (n1 : -1000000000 ≤ n) (n2 : n ≤ 1000000000) : -1000000000 < m.tmod n ∧ m.tmod n < 1000000000 := by
 have h1 := Int.natAbs_tmod m n
 have h2 := Nat.mod_lt m.natAbs (show 0 < n.natAbs by omega)
 omega
theorem mod_any (m s n t : Int) (w : World) (m1 : -1000000000 ≤ m) (m2 : m ≤ 1000000000) (n1 : -1000000000 ≤ n) (n2 : n ≤ 1000000000) :
  Calls Tryz.prog 144 #[.agg #[.int .i64 m, .int .i64 s], .agg #[.int .i64 n, .int .i64 t]] w fun e w' => e = .returned (modV m s n t).val ∧ Below w.heap.size w w' := by
 have BT := boxM w m s n t
 unfold modV
 by_cases hs : s ≠ 0 ∨ t ≠ 0 ∨ n = 0
 ·rw [if_pos hs]
  by_cases h1 : s = 0
  ·subst h1
   by_cases h2 : t = 0
   ·subst h2
    obtain rfl : n = 0 := by omega
    go_enter Tryz.func144, Tryz.ntmps144
    go_wp2_with fail
    exact bodyPost_ret (v := lfv 0 false 0 0 ⟨#[]⟩) zR144l rfl ⟨rfl, zBL⟩
   ·have e2 : (t != 0) = true := by simpa using h2
    clear hs h2
    go_enter Tryz.func144, Tryz.ntmps144
    go_wp2_with fail
    exact bodyPost_ret (v := lfv 0 false 0 0 ⟨#[]⟩) zR144l rfl ⟨rfl, zBL⟩
  ·have e1 : (s != 0) = true := by simpa using h1
   clear hs h1
   go_enter Tryz.func144, Tryz.ntmps144
   go_wp2_with fail
   exact bodyPost_ret (v := lfv 0 false 0 0 ⟨#[]⟩) zR144l rfl ⟨rfl, zBL⟩
 ·rw [if_neg hs]
  obtain ⟨hs1, hs2, hn⟩ : s = 0 ∧ t = 0 ∧ n ≠ 0 := by omega
  subst hs1 hs2
  have tb := tmod_bd m n hn n1 n2
  have e3 : (n == 0) = false := by simpa using hn
  have e4 : ¬ n = 0 := hn
  have wr : IntKind.i64.wrap (m.tmod n) = m.tmod n := i64_in (by omega) (by omega)
  have HW := hide wr
  clear hs wr
  by_cases hr : m.tmod n ≠ 0 ∧ (decide (m.tmod n < 0) != decide (n < 0)) = true
  ·rw [if_pos hr]
   obtain ⟨h1, h2⟩ := hr
   have e1 : (m.tmod n != 0) = true := by simpa using h1
   clear h1 hn
   by_cases h3 : m.tmod n < 0
   ·have h4 : ¬ n < 0 := by intro h; simp [h3, h] at h2
    clear h2
    go_enter Tryz.func144, Tryz.ntmps144
    go_wp2_with fail
    generalize (((w.alloc (Obj.cells #[.int .i64 m, .int .i64 0] 23)).alloc (Obj.cells #[.int .i64 n, .int .i64 0] 23)).alloc (Obj.cells #[.int .i64 0, .bool false, .int .i64 0, .int .i64 0, .string ⟨#[]⟩, .slice none 0 0] 32)) = V at *
    obtain ⟨X0, Y0, O0, B0⟩ := BT
    refine (ewhole_any _ _).mono ?_
    rintro e w1 ⟨rfl, k1⟩
    have O1 := O0.below k1
    have B1 := bstep B0 k1
    obtain ⟨u0, t0, t1, t2, t3, t4, t5, f0, f1, f2, f3, f4, f5⟩ := Own.fl O1
    unfold lfv
    go_wp2_with fail
    exact bodyPost_ret (v := lfv 2 false (m.tmod n + n) 0 ⟨#[]⟩) zR144lt0t1t2t3t4t5 rfl ⟨rfl, zBL⟩
   ·have h4 : n < 0 := by apply Classical.byContradiction; intro h; simp [h3, h] at h2
    clear h2
    go_enter Tryz.func144, Tryz.ntmps144
    go_wp2_with fail
    generalize (((w.alloc (Obj.cells #[.int .i64 m, .int .i64 0] 23)).alloc (Obj.cells #[.int .i64 n, .int .i64 0] 23)).alloc (Obj.cells #[.int .i64 0, .bool false, .int .i64 0, .int .i64 0, .string ⟨#[]⟩, .slice none 0 0] 32)) = V at *
    obtain ⟨X0, Y0, O0, B0⟩ := BT
    refine (ewhole_any _ _).mono ?_
    rintro e w1 ⟨rfl, k1⟩
    have O1 := O0.below k1
    have B1 := bstep B0 k1
    obtain ⟨u0, t0, t1, t2, t3, t4, t5, f0, f1, f2, f3, f4, f5⟩ := Own.fl O1
    unfold lfv
    go_wp2_with fail
    exact bodyPost_ret (v := lfv 2 false (m.tmod n + n) 0 ⟨#[]⟩) zR144lt0t1t2t3t4t5 rfl ⟨rfl, zBL⟩
  ·rw [if_neg hr]
   by_cases h1 : m.tmod n = 0
   ·have e1 : (m.tmod n != 0) = false := by simpa using h1
    rw [h1] at hr e1 ⊢
    clear hn hr HW tb
    have wr0 : IntKind.i64.wrap 0 = 0 := rfl
    go_enter Tryz.func144, Tryz.ntmps144
    go_wp2_with fail
    generalize (((w.alloc (Obj.cells #[.int .i64 m, .int .i64 0] 23)).alloc (Obj.cells #[.int .i64 n, .int .i64 0] 23)).alloc (Obj.cells #[.int .i64 0, .bool false, .int .i64 0, .int .i64 0, .string ⟨#[]⟩, .slice none 0 0] 32)) = V at *
    obtain ⟨X0, Y0, O0, B0⟩ := BT
    refine (ewhole_any _ _).mono ?_
    rintro e w1 ⟨rfl, k1⟩
    have O1 := O0.below k1
    have B1 := bstep B0 k1
    obtain ⟨u0, t0, t1, t2, t3, t4, t5, f0, f1, f2, f3, f4, f5⟩ := Own.fl O1
    unfold lfv
    go_wp2_with fail
    exact bodyPost_ret (v := lfv 2 false 0 0 ⟨#[]⟩) zR144lt0t1t2t3t4t5 rfl ⟨rfl, zBL⟩
   ·have e1 : (m.tmod n != 0) = true := by simpa using h1
    have h2 : decide (m.tmod n < 0) = decide (n < 0) := by
     apply Classical.byContradiction; intro h; exact hr ⟨h1, by simpa using h⟩
    clear hr h1 hn
    by_cases h3 : m.tmod n < 0
    ·have h4 : n < 0 := by simpa [h3] using h2.symm
     clear h2
     go_enter Tryz.func144, Tryz.ntmps144
     go_wp2_with fail
     generalize (((w.alloc (Obj.cells #[.int .i64 m, .int .i64 0] 23)).alloc (Obj.cells #[.int .i64 n, .int .i64 0] 23)).alloc (Obj.cells #[.int .i64 0, .bool false, .int .i64 0, .int .i64 0, .string ⟨#[]⟩, .slice none 0 0] 32)) = V at *
     obtain ⟨X0, Y0, O0, B0⟩ := BT
     refine (ewhole_any _ _).mono ?_
     rintro e w1 ⟨rfl, k1⟩
     have O1 := O0.below k1
     have B1 := bstep B0 k1
     obtain ⟨u0, t0, t1, t2, t3, t4, t5, f0, f1, f2, f3, f4, f5⟩ := Own.fl O1
     unfold lfv
     go_wp2_with fail
     exact bodyPost_ret (v := lfv 2 false (m.tmod n) 0 ⟨#[]⟩) zR144lt0t1t2t3t4t5 rfl ⟨rfl, zBL⟩
    ·have h4 : ¬ n < 0 := by simpa [h3] using h2.symm
     clear h2
     go_enter Tryz.func144, Tryz.ntmps144
     go_wp2_with fail
     generalize (((w.alloc (Obj.cells #[.int .i64 m, .int .i64 0] 23)).alloc (Obj.cells #[.int .i64 n, .int .i64 0] 23)).alloc (Obj.cells #[.int .i64 0, .bool false, .int .i64 0, .int .i64 0, .string ⟨#[]⟩, .slice none 0 0] 32)) = V at *
     obtain ⟨X0, Y0, O0, B0⟩ := BT
     refine (ewhole_any _ _).mono ?_
     rintro e w1 ⟨rfl, k1⟩
     have O1 := O0.below k1
     have B1 := bstep B0 k1
     obtain ⟨u0, t0, t1, t2, t3, t4, t5, f0, f1, f2, f3, f4, f5⟩ := Own.fl O1
     unfold lfv
     go_wp2_with fail
     exact bodyPost_ret (v := lfv 2 false (m.tmod n) 0 ⟨#[]⟩) zR144lt0t1t2t3t4t5 rfl ⟨rfl, zBL⟩
end
section
open VT (leaf mkV)
attribute [local go_sem ↓] Go.wp_at_zero Go.wp_at_succ
theorem okB_mono (x : VT) : ∀ n n', n ≤ n' → x.okB n = true → x.okB n' = true := by
 induction x with
 | none => intro n n' _ h; exact absurd h (by simp [VT.okB])
 | mk k b m s t a len cap kid ih =>
  intro n n' hn h
  have al := (okB_kind h).1
  rw [okB_yes n al] at h
  rw [okB_yes n' al]
  by_cases k4 : k = 4
  ·subst k4
   simp only [Bool.and_eq_true, decide_eq_true_eq, if_true] at h ⊢
   simp only [show ¬ ((4 : Int) = 0 ∨ (4 : Int) = 1) by decide, show ¬ ((4 : Int) = 2) by decide, show ¬ ((4 : Int) = 3) by decide, if_false, Bool.and_eq_true, decide_eq_true_eq] at h ⊢
   exact ⟨by omega, h.2.1, all_range (f := fun i => (kid i).okB (n' - 1)) (fun i hi => ih i _ _ (by omega) (all_range_get (f := fun i => (kid i).okB (n - 1)) h.2.2 hi))⟩
  ·rw [if_neg k4] at h ⊢
   exact h
theorem okB_up {x : VT} (h : x.okB (2 - 1) = true) : x.okB 2 = true := okB_mono x _ _ (by omega) h
theorem two_any (l : List UInt8) (x y : VT) (w : World) (hx : x.okB 2 = true) (hy : y.okB 2 = true) (hin : x.In w) (hin' : y.In w) :
  Calls Tryz.prog 128 #[.string ⟨l.toArray⟩, x.val, y.val] w fun e w' => e = .returned (twoT l x y).val ∧ Below w.heap.size w w' := by
 obtain ⟨k, b, m, s, t, a, len, cap, kid, rfl⟩ := hin.form
 obtain ⟨k', b', m', s', t', a', len', cap', kid', rfl⟩ := hin'.form
 have BT := boxes2 w k b m s t a len cap k' b' m' s' t' a' len' cap'
 have J0 := hide (hin.below BT.2.2.2.1)
 have K0 := hide (hin'.below BT.2.2.2.1)
 have HX := hide hx
 have HY := hide hy
 unfold twoT
 clear hin hin' hx hy
 show Calls Tryz.prog 128 #[.string ⟨l.toArray⟩, .agg #[.int .i64 k, .bool b, .int .i64 m, .int .i64 s, .string t, .slice a len cap], .agg #[.int .i64 k', .bool b', .int .i64 m', .int .i64 s', .string t', .slice a' len' cap']] w _
 by_cases h1 : l = [109, 111, 100]
 ·subst h1
  by_cases hk : k = 2 ∧ k' = 2
  ·obtain ⟨rfl, rfl⟩ := hk
   rw [if_pos ⟨rfl, rfl, rfl⟩]
   have i1 := isB_bd (okB_num (unhide HX))
   have i2 := isB_bd (okB_num (unhide HY))
   have MD := hide (fun w => mod_any m s m' s' w i1.1 i1.2.1 i2.1 i2.2.1)
   have eV : ∃ M S kk, (modV m s m' s').val = lfv kk false M S ⟨#[]⟩ := by
    unfold modV
    split
    ·exact ⟨_, _, _, rfl⟩
    split
    ·exact ⟨_, _, _, rfl⟩
    ·exact ⟨_, _, _, rfl⟩
   obtain ⟨M, S, kk, eV⟩ := eV
   have EV : Hid ((modV (mOf (VT.mk 2 b m s t a len cap kid)) (sOf (VT.mk 2 b m s t a len cap kid)) (mOf (VT.mk 2 b' m' s' t' a' len' cap' kid')) (sOf (VT.mk 2 b' m' s' t' a' len' cap' kid'))).val = lfv kk false M S ⟨#[]⟩) := hide eV
   rw [eV] at MD
   rw [unhide EV]
   clear eV EV i1 i2 HX HY
   go_enter Tryz.func128, Tryz.ntmps128
   go_wp2_with fail
   generalize (((w.alloc (Obj.cells #[.int .i64 2, .bool b, .int .i64 m, .int .i64 s, .string t, .slice a len cap] 32)).alloc (Obj.cells #[.int .i64 2, .bool b', .int .i64 m', .int .i64 s', .string t', .slice a' len' cap'] 32)).alloc (Obj.cells #[.int .i64 0, .bool false, .int .i64 0, .int .i64 0, .string ⟨#[]⟩, .slice none 0 0] 32)) = V at *
   obtain ⟨X0, Y0, O0, B0, z0⟩ := BT
   refine (both_any _ _ _ _ _ _ _ _ _ _ _ _ _ _ _ _ _ _).mono ?_
   rintro e w1 ⟨rfl, k1⟩
   rw [decide_eq_true (show (2 : Int) = 2 ∧ (2 : Int) = 2 from ⟨rfl, rfl⟩)]
   have X1 := VT.Six.below X0 k1
   have Y1 := VT.Six.below Y0 k1
   have O1 := Own.below O0 k1
   have B1 := bstep B0 k1
   clear k1 X0 Y0 O0 B0 z0 J0 K0
   obtain ⟨x0, x1, x2, x3, x4, x5, x6⟩ := sixfl X1
   obtain ⟨y0, y1, y2, y3, y4, y5, y6⟩ := sixfl Y1
   go_wp2_with fail
   refine (unhide MD _).mono ?_
   rintro e w2 ⟨rfl, k2⟩
   have O2 := Own.below O1 k2
   have B2 := bstep B1 k2
   clear k2 O1 B1 x0 x1 x2 x3 x4 x5 x6 y0 y1 y2 y3 y4 y5 y6
   obtain ⟨u0, t0, t1, t2, t3, t4, t5, f0, f1, f2, f3, f4, f5⟩ := Own.fl O2
   unfold lfv
   go_wp2_with fail
   exact bodyPost_ret (v := lfv kk false M S ⟨#[]⟩) zR128lt0t1t2t3t4t5 rfl ⟨rfl, zBL⟩
  ·rw [if_neg (fun h => hk h.2), if_neg (fun h => absurd h.1 (by decide))]
   have HK := hide hk
   clear hk
   go_enter Tryz.func128, Tryz.ntmps128
   go_wp2_with fail
   generalize (((w.alloc (Obj.cells #[.int .i64 k, .bool b, .int .i64 m, .int .i64 s, .string t, .slice a len cap] 32)).alloc (Obj.cells #[.int .i64 k', .bool b', .int .i64 m', .int .i64 s', .string t', .slice a' len' cap'] 32)).alloc (Obj.cells #[.int .i64 0, .bool false, .int .i64 0, .int .i64 0, .string ⟨#[]⟩, .slice none 0 0] 32)) = V at *
   obtain ⟨X0, Y0, O0, B0, z0⟩ := BT
   refine (both_any _ _ _ _ _ _ _ _ _ _ _ _ _ _ _ _ _ _).mono ?_
   rintro e w1 ⟨rfl, k1⟩
   rw [decide_eq_false (unhide HK)]
   have X1 := VT.Six.below X0 k1
   have O1 := Own.below O0 k1
   have B1 := bstep B0 k1
   clear k1 X0 Y0 O0 B0 z0 J0 K0
   obtain ⟨x0, x1, x2, x3, x4, x5, x6⟩ := sixfl X1
   obtain ⟨u0, t0, t1, t2, t3, t4, t5, f0, f1, f2, f3, f4, f5⟩ := Own.fl O1
   go_wp2_with fail
   exact bodyPost_ret (v := lfv 0 false 0 0 ⟨#[]⟩) zR128lt0t1t2t3t4t5 rfl ⟨rfl, zBL⟩
 ·rw [if_neg (fun h => h1 h.1)]
  have q1 : (l == [109, 111, 100]) = false := by simpa using h1
  clear h1
  by_cases h2 : l = [104, 97, 115]
  ·subst h2
   by_cases hk : k = 4
   ·subst hk
    rw [if_pos ⟨rfl, rfl⟩]
    have hl := okB_list (unhide HX)
    have RW := hide (rowT_of (unhide J0))
    have HS := fun w h h' => has_any a cap ((List.range len).map kid) (VT.mk k' b' m' s' t' a' len' cap' kid') w h (fun v hv => by
     simp only [List.mem_map, List.mem_range] at hv
     obtain ⟨i, hi, rfl⟩ := hv
     exact okB_up (hl.2 i hi)) (unhide HY) h'
    have eL : ((List.range len).map kid).length = len := by simp
    rw [eL] at HS
    have HSH := hide HS
    clear HS eL hl
    unfold lOf hasV at *
    dsimp only
    generalize (((List.range len).map kid).any fun v => v.cmp (VT.mk k' b' m' s' t' a' len' cap' kid') == 0) = R at *
    go_enter Tryz.func128, Tryz.ntmps128
    go_wp2_with fail
    generalize (((w.alloc (Obj.cells #[.int .i64 4, .bool b, .int .i64 m, .int .i64 s, .string t, .slice a len cap] 32)).alloc (Obj.cells #[.int .i64 k', .bool b', .int .i64 m', .int .i64 s', .string t', .slice a' len' cap'] 32)).alloc (Obj.cells #[.int .i64 0, .bool false, .int .i64 0, .int .i64 0, .string ⟨#[]⟩, .slice none 0 0] 32)) = V at *
    obtain ⟨X0, Y0, O0, B0, z0⟩ := BT
    refine (unhide HSH _ (unhide RW) (unhide K0)).mono ?_
    rintro e w1 ⟨rfl, k1⟩
    have O1 := Own.below O0 k1
    have B1 := bstep B0 k1
    clear k1 X0 Y0 O0 B0 z0 J0 K0 RW HSH
    obtain ⟨u0, t0, t1, t2, t3, t4, t5, f0, f1, f2, f3, f4, f5⟩ := Own.fl O1
    show _
    unfold booV VT.leaf VT.val
    dsimp only
    go_wp2_with fail
    exact bodyPost_ret (v := lfv 1 R 0 0 ⟨#[]⟩) zR128lt0t1t2t3t4t5 rfl ⟨rfl, zBL⟩
   ·rw [if_neg (fun h => hk h.2)]
    have e1 : (k == 4) = false := by simpa using hk
    clear hk
    go_enter Tryz.func128, Tryz.ntmps128
    go_wp2_with fail
    exact bodyPost_ret (v := lfv 0 false 0 0 ⟨#[]⟩) zR128l rfl ⟨rfl, zBL⟩
  ·rw [if_neg (fun h => h2 h.1)]
   have q2 : (l == [104, 97, 115]) = false := by simpa using h2
   clear h2
   go_enter Tryz.func128, Tryz.ntmps128
   go_wp2_with fail
   exact bodyPost_ret (v := lfv 0 false 0 0 ⟨#[]⟩) zR128l rfl ⟨rfl, zBL⟩
end
section
open VT (leaf mkV)
attribute [local go_sem ↓] Go.wp_at_zero Go.wp_at_succ
def LF (v : VT) : Prop := ∃ k b m s t, v = leaf k b m s t
theorem lf_nil : LF nilV := ⟨_, _, _, _, _, rfl⟩
theorem lf_num (m s : Int) : LF (numV m s) := ⟨_, _, _, _, _, rfl⟩
theorem lf_boo (b : Bool) : LF (booV b) := ⟨_, _, _, _, _, rfl⟩
theorem lf_tex (t : ByteArray) : LF (texV t) := ⟨_, _, _, _, _, rfl⟩
theorem lf_rel (l : List UInt8) (x y : VT) : LF (relT l x y) := by
 unfold relT
 repeat (first | exact lf_nil | exact lf_boo _ | split)
theorem lf_one (l : List UInt8) (x : VT) : LF (oneT l x) := by
 unfold oneT notV
 repeat (first | exact lf_nil | exact lf_num _ _ | exact ⟨_, _, _, _, _, rfl⟩ | split)
theorem lf_two (l : List UInt8) (x y : VT) : LF (twoT l x y) := by
 unfold twoT modV hasV
 repeat (first | exact lf_nil | exact lf_num _ _ | exact lf_boo _ | split)
theorem LF.val {v : VT} (h : LF v) : ∃ K BB M SS TT, v.val = lfv K BB M SS TT := by
 obtain ⟨k, b, m, s, t, rfl⟩ := h
 exact ⟨_, _, _, _, _, rfl⟩
theorem fix2_any (nm : List UInt8) (bl o cap : Nat) (x y : VT) (w : World) (hx : x.okB 2 = true) (hy : y.okB 2 = true) (hin : (rowT (some ⟨bl, o, none⟩) cap [x, y]).In w) :
  Calls Tryz.prog 88 #[.string ⟨nm.toArray⟩, .slice (some ⟨bl, o, none⟩) 2 cap] w fun e w' => e = .returned (twoT nm x y).val ∧ Below w.heap.size w w' := by
 obtain ⟨bl1, o1, k, b, m, s, t, a, len, cap1, kid, hbl1, hx1, six1, hk1⟩ := hin.kid (i := 0) (by simp)
 obtain ⟨bl2, o2, k', b', m', s', t', a', len', cap', kid', hbl2, hx2, six2, hk2⟩ := hin.kid (i := 1) (by simp)
 obtain ⟨rfl, rfl⟩ : bl = bl1 ∧ o = o1 := by simpa using hbl1
 obtain ⟨rfl, rfl⟩ : bl = bl2 ∧ o = o2 := by simpa using hbl2
 obtain rfl : x = .mk k b m s t a len cap1 kid := by simpa using hx1
 obtain rfl : y = .mk k' b' m' s' t' a' len' cap' kid' := by simpa using hx2
 rw [show o + 0 * 6 = o by omega] at six1
 rw [show o + 1 * 6 = o + 6 by omega] at six2
 have b0 := bZ w
 have JX := hide (hk1.below b0)
 have JY := hide (hk2.below b0)
 have Q0 := six1.below b0
 have Q1 := six2.below b0
 have O0 := Own.new w 32
 have TW := hide (fun w h h' => two_any nm (.mk k b m s t a len cap1 kid) (.mk k' b' m' s' t' a' len' cap' kid') w hx hy h h')
 obtain ⟨K, BB, M, SS, TT, eV⟩ := (lf_two nm (.mk k b m s t a len cap1 kid) (.mk k' b' m' s' t' a' len' cap' kid')).val
 have EV := hide eV
 rw [eV]
 have hz : (w.alloc (Obj.cells #[.int .i64 0, .bool false, .int .i64 0, .int .i64 0, .string ⟨#[]⟩, .slice none 0 0] 32)).heap.size = w.heap.size + 1 := by simp
 have hbw : bl < w.heap.size := six1.1
 clear eV hx hy hin hbl1 hbl2 hx1 hx2 hk1 hk2 six1 six2
 go_enter Tryz.func88, Tryz.ntmps88
 go_wp2_with fail
 generalize w.alloc (Obj.cells #[.int .i64 0, .bool false, .int .i64 0, .int .i64 0, .string ⟨#[]⟩, .slice none 0 0] 32) = V at *
 have QB := b0
 have SK : Hid (∀ w', Below V.heap.size V w' → (Below w.heap.size w w' ∧ VT.Six w' bl (o) k b m s t a len cap1 ∧ VT.Six w' bl (o + 6) k' b' m' s' t' a' len' cap')) := hide (fun w' kk => ⟨QB.trans (kk.mono (by omega)), VT.Six.below Q0 kk, VT.Six.below Q1 kk⟩)
 refine wp_region_noPanic ?_
 refine wp_region_held_drew (S := fun w' => Below w.heap.size w w' ∧ VT.Six w' bl (o) k b m s t a len cap1 ∧ VT.Six w' bl (o + 6) k' b' m' s' t' a' len' cap') (by kernel_rfl) ?hS0 (fun hHeld => ?_)
 case hS0 => exact unhide SK _ (Below.refl _ _).drew
 refine takeAt 0 (some 16) ?pv0 ⟨_, rfl, rfl, rfl, ?py0⟩ (by kernel_rfl) (by kernel_rfl) (by kernel_rfl) (fun _ _ _ h => h) (by assumption) ?_
 case py0 => (intro w0 hSw; obtain ⟨_, ⟨g00, g01, g02, g03, g04, g05, g06⟩, ⟨g10, g11, g12, g13, g14, g15, g16⟩⟩ := hSw; (try simp only [Nat.zero_add] at g01 g02 g03 g04 g05 g06 g11 g12 g13 g14 g15 g16); go_simp; try (with_reducible rfl))
 simp only [Act.put, List.setIfInBounds_toArray, List.set_cons_zero, List.set_cons_succ]
 refine takeAt 1 (some 17) ?pv1 ⟨_, rfl, rfl, rfl, ?py1⟩ (by kernel_rfl) (by kernel_rfl) (by kernel_rfl) (fun _ _ _ h => h) (by assumption) ?_
 case py1 => (intro w0 hSw; obtain ⟨_, ⟨g00, g01, g02, g03, g04, g05, g06⟩, ⟨g10, g11, g12, g13, g14, g15, g16⟩⟩ := hSw; (try simp only [Nat.zero_add] at g01 g02 g03 g04 g05 g06 g11 g12 g13 g14 g15 g16); go_simp; try (with_reducible rfl))
 simp only [Act.put, List.setIfInBounds_toArray, List.set_cons_zero, List.set_cons_succ]
 refine takeAt 2 (some 18) ?pv2 ⟨_, rfl, rfl, rfl, ?py2⟩ (by kernel_rfl) (by kernel_rfl) (by kernel_rfl) (fun _ _ _ h => h) (by assumption) ?_
 case py2 => (intro w0 hSw; obtain ⟨_, ⟨g00, g01, g02, g03, g04, g05, g06⟩, ⟨g10, g11, g12, g13, g14, g15, g16⟩⟩ := hSw; (try simp only [Nat.zero_add] at g01 g02 g03 g04 g05 g06 g11 g12 g13 g14 g15 g16); go_simp; try (with_reducible rfl))
 simp only [Act.put, List.setIfInBounds_toArray, List.set_cons_zero, List.set_cons_succ]
 refine takeAt 3 (some 19) ?pv3 ⟨_, rfl, rfl, rfl, ?py3⟩ (by kernel_rfl) (by kernel_rfl) (by kernel_rfl) (fun _ _ _ h => h) (by assumption) ?_
 case py3 => (intro w0 hSw; obtain ⟨_, ⟨g00, g01, g02, g03, g04, g05, g06⟩, ⟨g10, g11, g12, g13, g14, g15, g16⟩⟩ := hSw; (try simp only [Nat.zero_add] at g01 g02 g03 g04 g05 g06 g11 g12 g13 g14 g15 g16); go_simp; try (with_reducible rfl))
 simp only [Act.put, List.setIfInBounds_toArray, List.set_cons_zero, List.set_cons_succ]
 refine takeAt 4 (some 20) ?pv4 ⟨_, rfl, rfl, rfl, ?py4⟩ (by kernel_rfl) (by kernel_rfl) (by kernel_rfl) (fun _ _ _ h => h) (by assumption) ?_
 case py4 => (intro w0 hSw; obtain ⟨_, ⟨g00, g01, g02, g03, g04, g05, g06⟩, ⟨g10, g11, g12, g13, g14, g15, g16⟩⟩ := hSw; (try simp only [Nat.zero_add] at g01 g02 g03 g04 g05 g06 g11 g12 g13 g14 g15 g16); go_simp; try (with_reducible rfl))
 simp only [Act.put, List.setIfInBounds_toArray, List.set_cons_zero, List.set_cons_succ]
 refine takeAt 5 (some 21) ?pv5 ⟨_, rfl, rfl, rfl, ?py5⟩ (by kernel_rfl) (by kernel_rfl) (by kernel_rfl) (fun _ _ _ h => h) (by assumption) ?_
 case py5 => (intro w0 hSw; obtain ⟨_, ⟨g00, g01, g02, g03, g04, g05, g06⟩, ⟨g10, g11, g12, g13, g14, g15, g16⟩⟩ := hSw; (try simp only [Nat.zero_add] at g01 g02 g03 g04 g05 g06 g11 g12 g13 g14 g15 g16); go_simp; try (with_reducible rfl))
 simp only [Act.put, List.setIfInBounds_toArray, List.set_cons_zero, List.set_cons_succ]
 refine takeAt 6 (some 22) ?pv6 ⟨_, rfl, rfl, rfl, ?py6⟩ (by kernel_rfl) (by kernel_rfl) (by kernel_rfl) (fun _ _ _ h => h) (by assumption) ?_
 case py6 => (intro w0 hSw; obtain ⟨_, ⟨g00, g01, g02, g03, g04, g05, g06⟩, ⟨g10, g11, g12, g13, g14, g15, g16⟩⟩ := hSw; (try simp only [Nat.zero_add] at g01 g02 g03 g04 g05 g06 g11 g12 g13 g14 g15 g16); go_simp; try (with_reducible rfl))
 simp only [Act.put, List.setIfInBounds_toArray, List.set_cons_zero, List.set_cons_succ]
 refine wpAnyH_ready (rs := [7]) (by kernel_rfl) (by simp) ?_
 refine AllReadyH.cons rfl (fun K0 hK0 => ?_) AllReadyH.nil
 go_simp
 refine (unhide TW _ ((unhide JX).below (Below.refl _ _).drew) ((unhide JY).below (Below.refl _ _).drew)).mono ?_
 rintro e w2 ⟨rfl, k2⟩
 rw [unhide EV]
 unfold lfv
 go_wp2_with fail
 refine hK0.out _ _ ?hS7 (fun hHeld1 => ?_)
 case hS7 => exact unhide SK _ (bstep (Below.refl _ _).drew k2)
 clear hK0 K0 hHeld
 have hHeld := hHeld1
 clear hHeld1
 try simp only [Act.put, List.setIfInBounds_toArray, List.set_cons_zero, List.set_cons_succ]
 have O2 := O0.below (bstep (Below.refl _ _).drew k2)
 obtain ⟨u0, t0, t1, t2, t3, t4, t5, f0, f1, f2, f3, f4, f5⟩ := Own.fl O2
 refine wpAnyH_ready (rs := [8]) (by kernel_rfl) (by simp) ?_
 refine AllReadyH.cons rfl (fun K0 hK0 => ?_) AllReadyH.nil
 go_simp
 obtain ⟨hb0, hc0, hv0⟩ := hHeld
 refine hK0.out _ _ ?hS8 (fun hHeld1 => ?_)
 case hS8 => exact ⟨put_below w2 w.heap.size 0 (.int .i64 K) (.bool BB) (.int .i64 M) (.int .i64 SS) (.string TT) (.slice none 0 0) hb0 (by omega), put_six w2 w.heap.size 0 (.int .i64 K) (.bool BB) (.int .i64 M) (.int .i64 SS) (.string TT) (.slice none 0 0) hc0 (by omega), put_six w2 w.heap.size 0 (.int .i64 K) (.bool BB) (.int .i64 M) (.int .i64 SS) (.string TT) (.slice none 0 0) hv0 (by omega)⟩
 refine wpAnyH_done (by kernel_rfl) ?_ _
 refine NoPanic.normal ?_
 go_wp2_with fail
 exact bodyPost_ret (v := lfv K BB M SS TT) zR88lt0t1t2t3t4t5 rfl ⟨rfl, hHeld1.1⟩
theorem fixed_any (nm : List UInt8) (a : Option Addr) (cap : Nat) (l : List VT) (w : World) (hok : ∀ v ∈ l, v.okB 2 = true) (hin : (rowT a cap l).In w) :
  Calls Tryz.prog 88 #[.string ⟨nm.toArray⟩, .slice a l.length cap] w fun e w' => e = .returned (fixT nm l).val ∧ Below w.heap.size w w' := by
 match l, hok, hin with
 | [], hok, hin =>
  go_enter Tryz.func88, Tryz.ntmps88
  go_wp2_with fail
  exact bodyPost_ret (v := lfv 0 false 0 0 ⟨#[]⟩) zR88l rfl ⟨rfl, zBL⟩
 | [x], hok, hin =>
  obtain ⟨bl1, o1, k, b, m, s, t, a1, len, cap1, kid, rfl, hx1, six1, hk1⟩ := hin.kid (i := 0) (by simp)
  obtain rfl : x = .mk k b m s t a1 len cap1 kid := by simpa using hx1
  rw [show o1 + 0 * 6 = o1 by omega] at six1
  have b0 := bZ w
  have ON := hide (eone_any nm (.mk k b m s t a1 len cap1 kid) _ (hok _ (by simp)) (hk1.below b0))
  have O0 := Own.new w 32
  obtain ⟨K, BB, M, SS, TT, eV⟩ := (lf_one nm (.mk k b m s t a1 len cap1 kid)).val
  have EV := hide eV
  show Calls Tryz.prog 88 #[.string ⟨nm.toArray⟩, .slice (some ⟨bl1, o1, none⟩) 1 cap] w fun e w' => e = .returned (oneT nm (.mk k b m s t a1 len cap1 kid)).val ∧ Below w.heap.size w w'
  rw [eV]
  obtain ⟨s0, s1, s2, s3, s4, s5, s6⟩ := six1
  clear eV hok hin hx1 hk1
  go_enter Tryz.func88, Tryz.ntmps88
  go_wp2_with fail
  refine (unhide ON).mono ?_
  rintro e w1 ⟨rfl, k1⟩
  rw [unhide EV]
  have O1 := O0.below k1
  have B1 := bstep b0 k1
  obtain ⟨u0, t0, t1, t2, t3, t4, t5, f0, f1, f2, f3, f4, f5⟩ := Own.fl O1
  unfold lfv
  go_wp2_with fail
  exact bodyPost_ret (v := lfv K BB M SS TT) zR88lt0t1t2t3t4t5 rfl ⟨rfl, zBL⟩
 | [x, y], hok, hin =>
  obtain ⟨bl1, o1, k, b, m, s, t, a1, len, cap1, kid, rfl, hx1, six1, hk1⟩ := hin.kid (i := 0) (by simp)
  exact fix2_any nm bl1 o1 cap x y w (hok _ (by simp)) (hok _ (by simp)) hin
 | x :: y :: z :: l, hok, hin =>
  have hlm := hin.1.2.2.2.2
  unfold maxLen at hlm
  simp only [List.length_cons] at hlm
  show Calls Tryz.prog 88 #[.string ⟨nm.toArray⟩, .slice a (l.length + 1 + 1 + 1) cap] w fun e w' => e = .returned nilV.val ∧ Below w.heap.size w w'
  have e1 : ((l.length : Int) + 1 + 1 + 1 == 1) = false := by simp; omega
  have e2 : ((l.length : Int) + 1 + 1 + 1 == 2) = false := by simp; omega
  clear hok hin
  go_enter Tryz.func88, Tryz.ntmps88
  go_wp2_with fail
  exact bodyPost_ret (v := lfv 0 false 0 0 ⟨#[]⟩) zR88l rfl ⟨rfl, zBL⟩
end
end Go.Proofs.YtfdimdjmnfdecaaGreat

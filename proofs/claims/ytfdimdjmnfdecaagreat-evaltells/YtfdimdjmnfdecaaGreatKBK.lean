/- RE11 RVals: laid together. -/
import Derived.Test.YtfdimdjmnfdecaaGreatKBJ
import Derived.Deep.AppendLies
import Derived.Laws.OwnMore
set_option linter.unusedVariables false
set_option linter.unusedSimpArgs false
set_option maxHeartbeats 8000000
namespace Go.Proofs.YtfdimdjmnfdecaaGreat
open Go.RowKit
section
open VT (leaf mkV)
theorem tl_push (S t : ByteArray) : XT.tl (S ++ t) = XT.tl S ++ XT.tl t := by unfold XT.tl; simp
theorem tl_size (t : ByteArray) : (XT.tl t).length = t.size := by unfold XT.tl; exact Array.length_toList
theorem okB_t16 {x : VT} (h : x.okB 2 = true) : (tOf x).size ≤ 16 := by
 cases x with
 | none => exact Nat.zero_le _
 | mk k b m s t a len cap kid =>
  by_cases hk : k = 3
  ·exact tex_size h hk
  ·have := nil_of ((alone_t (okB_kind h).1).2.2.1 hk)
   show t.size ≤ 16
   rw [this]; exact Nat.zero_le _
set_option maxRecDepth 10000 in
theorem rmany_cat (a : Option Addr) (cap : Nat) (l : List VT) (w : World) (hin : (rowT a cap l).In w) (hok : ∀ v ∈ l, v.okB 2 = true) (hlen : l.length ≤ 1759218604390) :
  Calls Tryz.prog 63 #[.string ⟨([99, 97, 116] : List UInt8).toArray⟩, .slice a l.length cap] w fun e w' => LfRes (catT l) e ∧ Below w.heap.size w w' := by
 have b0 := bZ w
 have O0 := Own.new w 32
 have hin1 := hin.below b0
 have HIN := hide hin1
 have AL := hide (fun w h => rallE_any 3 a cap l w h)
 have HOK := hide hok
 generalize hC : catT l = C
 have HC := hide hC
 clear hin hok hC hin1
 go_enter Tryz.func63, Tryz.ntmps63
 go_wp2_with fail
 generalize w.alloc (Obj.cells #[.int .i64 0, .bool false, .int .i64 0, .int .i64 0, .string ⟨#[]⟩, .slice none 0 0] 32) = V at *
 go_loopw [6, 7] (fun s i wr => ∃ (j : Nat) (S : ByteArray), j ≤ l.length ∧ i = .int .i64 j ∧ s = .string S ∧ XT.tl S = catV (l.take j) ∧ S.size ≤ 16 * j ∧ Below V.heap.size V wr) (fun _ i _ => l.length - (intOf i).toNat)
 case atStart => exact ⟨0, ⟨#[]⟩, Nat.zero_le _, rfl, rfl, rfl, Nat.zero_le _, Below.refl _ _⟩
 case round =>
  obtain ⟨j, S, hj, rfl, rfl, hS, hz, bel⟩ := hrel
  by_cases hlt : j < l.length
  ·obtain ⟨bl, o, k', b', m', s', t', a', len', cap', kid', rfl, hx, six, hk⟩ := (unhide HIN).kid hlt
   try dsimp only at hx
   have ht16 : t'.size ≤ 16 := by
    have h1 := unhide HOK _ (List.getElem_mem hlt)
    rw [← getD_eq hlt, hx] at h1
    exact okB_t16 h1
   have HSN := hide (show XT.tl (S ++ t') = catV (l.take (j + 1)) by rw [catV_snoc hlt, hx, tl_push, hS]; rfl)
   have hz2 : (S ++ t').size = S.size + t'.size := ByteArray.size_append
   obtain ⟨s0, s1, s2, s3, s4, s5, s6⟩ := six.below bel
   clear six hk hx hS
   go_wp2_with fail
   go_roundw
   case rel => exact ⟨j + 1, S ++ t', by omega, by go_num, rfl, unhide HSN, by omega, bel⟩
   case measure => simp [intOf]; omega
  ·obtain rfl : j = l.length := by omega
   rw [List.take_length] at hS
   have O1 := O0.below bel
   have B1 := bstep b0 bel
   by_cases h0 : l = []
   ·have HC2 := hide (show LfRes C (.returned (.tuple #[lfv 0 false 0 0 ⟨#[]⟩, .int .i64 0])) by rw [← unhide HC]; exact lfr_of (by unfold catT; rw [if_pos (.inl h0)]; rfl))
    have e0 : ((l.length : Int) == 0) = true := by rw [h0]; rfl
    clear h0 bel hS
    obtain ⟨u0, t0, t1, t2, t3, t4, t5, f0, f1, f2, f3, f4, f5⟩ := Own.fl O1
    go_wp2_with fail
    exact bodyPost_ret (v := .tuple #[lfv 0 false 0 0 ⟨#[]⟩, .int .i64 0]) zR63lt0t1t2t3t4t5 rfl ⟨unhide HC2, zBL⟩
   have e0 : ((l.length : Int) == 0) = false := by have := List.length_pos_iff.2 h0; simp; omega
   have hin2 := hide ((unhide HIN).below bel)
   cases hall : (l.all fun v => kdV v == 3)
   ·have HC2 := hide (show LfRes C (.returned (.tuple #[lfv 0 false 0 0 ⟨#[]⟩, .int .i64 0])) by rw [← unhide HC]; exact lfr_of (by unfold catT; rw [if_pos (.inr hall)]; rfl))
    rw [hall] at AL
    clear h0 hS hall
    go_wp2_with fail
    refine (unhide AL _ (unhide hin2)).mono ?_
    rintro e w2 ⟨rfl, k2⟩
    have O2 := O1.below k2
    have B2 := bstep B1 k2
    clear k2 O1 bel
    obtain ⟨u0, t0, t1, t2, t3, t4, t5, f0, f1, f2, f3, f4, f5⟩ := Own.fl O2
    go_wp2_with fail
    exact bodyPost_ret (v := .tuple #[lfv 0 false 0 0 ⟨#[]⟩, .int .i64 0]) zR63lt0t1t2t3t4t5 rfl ⟨unhide HC2, zBL⟩
   ·have hsz : (catV l).length = S.size := by rw [← hS]; exact tl_size S
    have hT : catT l = if 16 < S.size then (nilV, 3) else (texV S, 0) := by
     unfold catT
     rw [if_neg (by rw [hall]; simp [h0]), hsz, ← hS, ba_tl]
    have HC2 := hide (show LfRes C (.returned (Tup (if 16 < S.size then (nilV, 3) else (texV S, 0)))) by
     rw [← unhide HC, hT]
     by_cases h16 : 16 < S.size
     ·rw [if_pos h16]; exact lfr_tup lf_nil
     ·rw [if_neg h16]; exact lfr_tup (lf_tex S))
    have TE := hide (fun w => rtextE_any S w)
    obtain ⟨K, BB, M', SS, TT, E, eV⟩ : ∃ K BB M' SS TT E, Tup (if 16 < S.size then (nilV, 3) else (texV S, 0)) = .tuple #[lfv K BB M' SS TT, .int .i64 E] := by
     by_cases h16 : 16 < S.size
     ·rw [if_pos h16]; exact ⟨_, _, _, _, _, _, rfl⟩
     ·rw [if_neg h16]; exact ⟨_, _, _, _, _, _, rfl⟩
    rw [eV] at TE HC2
    rw [hall] at AL
    clear h0 hS hall hT eV hsz
    go_wp2_with fail
    refine (unhide AL _ (unhide hin2)).mono ?_
    rintro e w2 ⟨rfl, k2⟩
    have O2 := O1.below k2
    have B2 := bstep B1 k2
    clear k2 O1 bel
    go_wp2_with fail
    refine (unhide TE _).mono ?_
    rintro e w3 ⟨rfl, k3⟩
    have O3 := O2.below k3
    have B3 := bstep B2 k3
    clear k3 O2
    obtain ⟨u0, t0, t1, t2, t3, t4, t5, f0, f1, f2, f3, f4, f5⟩ := Own.fl O3
    unfold lfv
    go_wp2_with fail
    exact bodyPost_ret (v := .tuple #[lfv K BB M' SS TT, .int .i64 E]) zR63lt0t1t2t3t4t5 rfl ⟨unhide HC2, zBL⟩
set_option maxRecDepth 10000 in
theorem rcall_cat (a : Option Addr) (cap : Nat) (l : List VT) (w : World) (hin : (rowT a cap l).In w) (hok : ∀ v ∈ l, v.okB 2 = true) (hlen : l.length ≤ 1759218604390) :
  Calls Tryz.prog 34 #[.string ⟨([99, 97, 116] : List UInt8).toArray⟩, .slice a l.length cap] w fun e w' => LfRes (catT l) e ∧ Below w.heap.size w w' := by
 have b0 := bZ w
 have O0 := Own.new w 32
 have C := hide (fun w h => rmany_cat a cap l w h hok hlen)
 have hin1 := hide (hin.below b0)
 generalize catT l = X at *
 clear hin hok hlen
 go_enter Tryz.func34, Tryz.ntmps34
 go_wp2_with fail
 refine (unhide C _ (unhide hin1)).mono ?_
 rintro e w1 ⟨⟨K, BB, M', SS, TT, AA, CC, rfl, hX, hc⟩, k1⟩
 have O1 := O0.below k1
 have B1 := bstep b0 k1
 have HR := hide (show LfRes X (.returned (.tuple #[.agg #[.int .i64 K, .bool BB, .int .i64 M', .int .i64 SS, .string TT, .slice AA 0 CC], .int .i64 X.2])) from ⟨K, BB, M', SS, TT, AA, CC, rfl, hX, hc⟩)
 clear k1 O0 b0 hX hc
 obtain ⟨u0, t0, t1, t2, t3, t4, t5, f0, f1, f2, f3, f4, f5⟩ := Own.fl O1
 try unfold lfv
 go_wp2_with fail
 exact bodyPost_ret (v := .tuple #[.agg #[.int .i64 K, .bool BB, .int .i64 M', .int .i64 SS, .string TT, .slice AA 0 CC], .int .i64 X.2]) zR34lt0t1t2t3t4t5 rfl ⟨unhide HR, zBL⟩
set_option maxRecDepth 10000 in
theorem rcall_min (a : Option Addr) (cap : Nat) (l : List VT) (w : World) (hin : (rowT a cap l).In w) (hok : ∀ v ∈ l, v.okB 2 = true) (hlen : l.length ≤ 1759218604390) :
  Calls Tryz.prog 34 #[.string ⟨([109, 105, 110] : List UInt8).toArray⟩, .slice a l.length cap] w fun e w' => LfRes (overT [109, 105, 110] l) e ∧ Below w.heap.size w w' := by
 have b0 := bZ w
 have O0 := Own.new w 32
 have C := hide (fun w h => rnums_any [109, 105, 110] (by decide) a cap l w h hok)
 have hin1 := hide (hin.below b0)
 generalize overT [109, 105, 110] l = X at *
 clear hin hok hlen
 go_enter Tryz.func34, Tryz.ntmps34
 go_wp2_with fail
 refine (unhide C _ (unhide hin1)).mono ?_
 rintro e w1 ⟨⟨K, BB, M', SS, TT, AA, CC, rfl, hX, hc⟩, k1⟩
 have O1 := O0.below k1
 have B1 := bstep b0 k1
 have HR := hide (show LfRes X (.returned (.tuple #[.agg #[.int .i64 K, .bool BB, .int .i64 M', .int .i64 SS, .string TT, .slice AA 0 CC], .int .i64 X.2])) from ⟨K, BB, M', SS, TT, AA, CC, rfl, hX, hc⟩)
 clear k1 O0 b0 hX hc
 obtain ⟨u0, t0, t1, t2, t3, t4, t5, f0, f1, f2, f3, f4, f5⟩ := Own.fl O1
 try unfold lfv
 go_wp2_with fail
 exact bodyPost_ret (v := .tuple #[.agg #[.int .i64 K, .bool BB, .int .i64 M', .int .i64 SS, .string TT, .slice AA 0 CC], .int .i64 X.2]) zR34lt0t1t2t3t4t5 rfl ⟨unhide HR, zBL⟩
set_option maxRecDepth 10000 in
theorem rcall_max (a : Option Addr) (cap : Nat) (l : List VT) (w : World) (hin : (rowT a cap l).In w) (hok : ∀ v ∈ l, v.okB 2 = true) (hlen : l.length ≤ 1759218604390) :
  Calls Tryz.prog 34 #[.string ⟨([109, 97, 120] : List UInt8).toArray⟩, .slice a l.length cap] w fun e w' => LfRes (overT [109, 97, 120] l) e ∧ Below w.heap.size w w' := by
 have b0 := bZ w
 have O0 := Own.new w 32
 have C := hide (fun w h => rnums_any [109, 97, 120] (by decide) a cap l w h hok)
 have hin1 := hide (hin.below b0)
 generalize overT [109, 97, 120] l = X at *
 clear hin hok hlen
 go_enter Tryz.func34, Tryz.ntmps34
 go_wp2_with fail
 refine (unhide C _ (unhide hin1)).mono ?_
 rintro e w1 ⟨⟨K, BB, M', SS, TT, AA, CC, rfl, hX, hc⟩, k1⟩
 have O1 := O0.below k1
 have B1 := bstep b0 k1
 have HR := hide (show LfRes X (.returned (.tuple #[.agg #[.int .i64 K, .bool BB, .int .i64 M', .int .i64 SS, .string TT, .slice AA 0 CC], .int .i64 X.2])) from ⟨K, BB, M', SS, TT, AA, CC, rfl, hX, hc⟩)
 clear k1 O0 b0 hX hc
 obtain ⟨u0, t0, t1, t2, t3, t4, t5, f0, f1, f2, f3, f4, f5⟩ := Own.fl O1
 try unfold lfv
 go_wp2_with fail
 exact bodyPost_ret (v := .tuple #[.agg #[.int .i64 K, .bool BB, .int .i64 M', .int .i64 SS, .string TT, .slice AA 0 CC], .int .i64 X.2]) zR34lt0t1t2t3t4t5 rfl ⟨unhide HR, zBL⟩
set_option maxRecDepth 10000 in
theorem rcall_sum (a : Option Addr) (cap : Nat) (l : List VT) (w : World) (hin : (rowT a cap l).In w) (hok : ∀ v ∈ l, v.okB 2 = true) (hlen : l.length ≤ 1759218604390) :
  Calls Tryz.prog 34 #[.string ⟨([115, 117, 109] : List UInt8).toArray⟩, .slice a l.length cap] w fun e w' => LfRes (overT [115, 117, 109] l) e ∧ Below w.heap.size w w' := by
 have b0 := bZ w
 have O0 := Own.new w 32
 have C := hide (fun w h => rnums_any [115, 117, 109] (by decide) a cap l w h hok)
 have hin1 := hide (hin.below b0)
 generalize overT [115, 117, 109] l = X at *
 clear hin hok hlen
 go_enter Tryz.func34, Tryz.ntmps34
 go_wp2_with fail
 refine (unhide C _ (unhide hin1)).mono ?_
 rintro e w1 ⟨⟨K, BB, M', SS, TT, AA, CC, rfl, hX, hc⟩, k1⟩
 have O1 := O0.below k1
 have B1 := bstep b0 k1
 have HR := hide (show LfRes X (.returned (.tuple #[.agg #[.int .i64 K, .bool BB, .int .i64 M', .int .i64 SS, .string TT, .slice AA 0 CC], .int .i64 X.2])) from ⟨K, BB, M', SS, TT, AA, CC, rfl, hX, hc⟩)
 clear k1 O0 b0 hX hc
 obtain ⟨u0, t0, t1, t2, t3, t4, t5, f0, f1, f2, f3, f4, f5⟩ := Own.fl O1
 try unfold lfv
 go_wp2_with fail
 exact bodyPost_ret (v := .tuple #[.agg #[.int .i64 K, .bool BB, .int .i64 M', .int .i64 SS, .string TT, .slice AA 0 CC], .int .i64 X.2]) zR34lt0t1t2t3t4t5 rfl ⟨unhide HR, zBL⟩
set_option maxRecDepth 10000 in
theorem rcall_abs_n (a : Option Addr) (cap : Nat) (l : List VT) (w : World) (e1 : ((l.length : Int) == 1) = false) :
  Calls Tryz.prog 34 #[.string ⟨([97, 98, 115] : List UInt8).toArray⟩, .slice a l.length cap] w fun e w' => e = .returned (.tuple #[lfv 0 false 0 0 ⟨#[]⟩, .int .i64 0]) ∧ Below w.heap.size w w' := by
 have b0 := bZ w
 have O0 := Own.new w 32
 go_enter Tryz.func34, Tryz.ntmps34
 go_wp2_with fail
 obtain ⟨u0, t0, t1, t2, t3, t4, t5, f0, f1, f2, f3, f4, f5⟩ := Own.fl O0
 try unfold lfv
 go_wp2_with fail
 exact bodyPost_ret (v := .tuple #[lfv 0 false 0 0 ⟨#[]⟩, .int .i64 0]) zR34lt0t1t2t3t4t5 rfl ⟨rfl, zBL⟩
set_option maxRecDepth 10000 in
theorem rcall_floor_n (a : Option Addr) (cap : Nat) (l : List VT) (w : World) (e1 : ((l.length : Int) == 1) = false) :
  Calls Tryz.prog 34 #[.string ⟨([102, 108, 111, 111, 114] : List UInt8).toArray⟩, .slice a l.length cap] w fun e w' => e = .returned (.tuple #[lfv 0 false 0 0 ⟨#[]⟩, .int .i64 0]) ∧ Below w.heap.size w w' := by
 have b0 := bZ w
 have O0 := Own.new w 32
 go_enter Tryz.func34, Tryz.ntmps34
 go_wp2_with fail
 obtain ⟨u0, t0, t1, t2, t3, t4, t5, f0, f1, f2, f3, f4, f5⟩ := Own.fl O0
 try unfold lfv
 go_wp2_with fail
 exact bodyPost_ret (v := .tuple #[lfv 0 false 0 0 ⟨#[]⟩, .int .i64 0]) zR34lt0t1t2t3t4t5 rfl ⟨rfl, zBL⟩
set_option maxRecDepth 10000 in
theorem rcall_ceil_n (a : Option Addr) (cap : Nat) (l : List VT) (w : World) (e1 : ((l.length : Int) == 1) = false) :
  Calls Tryz.prog 34 #[.string ⟨([99, 101, 105, 108] : List UInt8).toArray⟩, .slice a l.length cap] w fun e w' => e = .returned (.tuple #[lfv 0 false 0 0 ⟨#[]⟩, .int .i64 0]) ∧ Below w.heap.size w w' := by
 have b0 := bZ w
 have O0 := Own.new w 32
 go_enter Tryz.func34, Tryz.ntmps34
 go_wp2_with fail
 obtain ⟨u0, t0, t1, t2, t3, t4, t5, f0, f1, f2, f3, f4, f5⟩ := Own.fl O0
 try unfold lfv
 go_wp2_with fail
 exact bodyPost_ret (v := .tuple #[lfv 0 false 0 0 ⟨#[]⟩, .int .i64 0]) zR34lt0t1t2t3t4t5 rfl ⟨rfl, zBL⟩
set_option maxRecDepth 10000 in
theorem rcall_not_n (a : Option Addr) (cap : Nat) (l : List VT) (w : World) (e1 : ((l.length : Int) == 1) = false) :
  Calls Tryz.prog 34 #[.string ⟨([110, 111, 116] : List UInt8).toArray⟩, .slice a l.length cap] w fun e w' => e = .returned (.tuple #[lfv 0 false 0 0 ⟨#[]⟩, .int .i64 0]) ∧ Below w.heap.size w w' := by
 have b0 := bZ w
 have O0 := Own.new w 32
 go_enter Tryz.func34, Tryz.ntmps34
 go_wp2_with fail
 obtain ⟨u0, t0, t1, t2, t3, t4, t5, f0, f1, f2, f3, f4, f5⟩ := Own.fl O0
 try unfold lfv
 go_wp2_with fail
 exact bodyPost_ret (v := .tuple #[lfv 0 false 0 0 ⟨#[]⟩, .int .i64 0]) zR34lt0t1t2t3t4t5 rfl ⟨rfl, zBL⟩
set_option maxRecDepth 10000 in
theorem rcall_len_n (a : Option Addr) (cap : Nat) (l : List VT) (w : World) (e1 : ((l.length : Int) == 1) = false) :
  Calls Tryz.prog 34 #[.string ⟨([108, 101, 110] : List UInt8).toArray⟩, .slice a l.length cap] w fun e w' => e = .returned (.tuple #[lfv 0 false 0 0 ⟨#[]⟩, .int .i64 0]) ∧ Below w.heap.size w w' := by
 have b0 := bZ w
 have O0 := Own.new w 32
 go_enter Tryz.func34, Tryz.ntmps34
 go_wp2_with fail
 obtain ⟨u0, t0, t1, t2, t3, t4, t5, f0, f1, f2, f3, f4, f5⟩ := Own.fl O0
 try unfold lfv
 go_wp2_with fail
 exact bodyPost_ret (v := .tuple #[lfv 0 false 0 0 ⟨#[]⟩, .int .i64 0]) zR34lt0t1t2t3t4t5 rfl ⟨rfl, zBL⟩
set_option maxRecDepth 10000 in
theorem rcall_count_n (a : Option Addr) (cap : Nat) (l : List VT) (w : World) (e1 : ((l.length : Int) == 1) = false) :
  Calls Tryz.prog 34 #[.string ⟨([99, 111, 117, 110, 116] : List UInt8).toArray⟩, .slice a l.length cap] w fun e w' => e = .returned (.tuple #[lfv 0 false 0 0 ⟨#[]⟩, .int .i64 0]) ∧ Below w.heap.size w w' := by
 have b0 := bZ w
 have O0 := Own.new w 32
 go_enter Tryz.func34, Tryz.ntmps34
 go_wp2_with fail
 obtain ⟨u0, t0, t1, t2, t3, t4, t5, f0, f1, f2, f3, f4, f5⟩ := Own.fl O0
 try unfold lfv
 go_wp2_with fail
 exact bodyPost_ret (v := .tuple #[lfv 0 false 0 0 ⟨#[]⟩, .int .i64 0]) zR34lt0t1t2t3t4t5 rfl ⟨rfl, zBL⟩
set_option maxRecDepth 10000 in
theorem rcall_mod_n (a : Option Addr) (cap : Nat) (l : List VT) (w : World) (e1 : ((l.length : Int) == 2) = false) :
  Calls Tryz.prog 34 #[.string ⟨([109, 111, 100] : List UInt8).toArray⟩, .slice a l.length cap] w fun e w' => e = .returned (.tuple #[lfv 0 false 0 0 ⟨#[]⟩, .int .i64 0]) ∧ Below w.heap.size w w' := by
 have b0 := bZ w
 have O0 := Own.new w 32
 go_enter Tryz.func34, Tryz.ntmps34
 go_wp2_with fail
 obtain ⟨u0, t0, t1, t2, t3, t4, t5, f0, f1, f2, f3, f4, f5⟩ := Own.fl O0
 try unfold lfv
 go_wp2_with fail
 exact bodyPost_ret (v := .tuple #[lfv 0 false 0 0 ⟨#[]⟩, .int .i64 0]) zR34lt0t1t2t3t4t5 rfl ⟨rfl, zBL⟩
set_option maxRecDepth 10000 in
theorem rcall_has_n (a : Option Addr) (cap : Nat) (l : List VT) (w : World) (e1 : ((l.length : Int) == 2) = false) :
  Calls Tryz.prog 34 #[.string ⟨([104, 97, 115] : List UInt8).toArray⟩, .slice a l.length cap] w fun e w' => e = .returned (.tuple #[lfv 0 false 0 0 ⟨#[]⟩, .int .i64 0]) ∧ Below w.heap.size w w' := by
 have b0 := bZ w
 have O0 := Own.new w 32
 go_enter Tryz.func34, Tryz.ntmps34
 go_wp2_with fail
 obtain ⟨u0, t0, t1, t2, t3, t4, t5, f0, f1, f2, f3, f4, f5⟩ := Own.fl O0
 try unfold lfv
 go_wp2_with fail
 exact bodyPost_ret (v := .tuple #[lfv 0 false 0 0 ⟨#[]⟩, .int .i64 0]) zR34lt0t1t2t3t4t5 rfl ⟨rfl, zBL⟩
set_option maxRecDepth 10000 in
theorem rcall_else (nm : List UInt8) (q0 : (nm == [109, 105, 110]) = false) (q1 : (nm == [109, 97, 120]) = false) (q2 : (nm == [115, 117, 109]) = false) (q3 : (nm == [99, 97, 116]) = false) (q4 : (nm == [97, 98, 115]) = false) (q5 : (nm == [102, 108, 111, 111, 114]) = false) (q6 : (nm == [99, 101, 105, 108]) = false) (q7 : (nm == [110, 111, 116]) = false) (q8 : (nm == [109, 111, 100]) = false) (q9 : (nm == [108, 101, 110]) = false) (q10 : (nm == [99, 111, 117, 110, 116]) = false) (q11 : (nm == [104, 97, 115]) = false) (a : Option Addr) (cap : Nat) (l : List VT) (w : World) :
  Calls Tryz.prog 34 #[.string ⟨(nm : List UInt8).toArray⟩, .slice a l.length cap] w fun e w' => e = .returned (.tuple #[lfv 0 false 0 0 ⟨#[]⟩, .int .i64 0]) ∧ Below w.heap.size w w' := by
 have b0 := bZ w
 have O0 := Own.new w 32
 go_enter Tryz.func34, Tryz.ntmps34
 go_wp2_with fail
 obtain ⟨u0, t0, t1, t2, t3, t4, t5, f0, f1, f2, f3, f4, f5⟩ := Own.fl O0
 try unfold lfv
 go_wp2_with fail
 exact bodyPost_ret (v := .tuple #[lfv 0 false 0 0 ⟨#[]⟩, .int .i64 0]) zR34lt0t1t2t3t4t5 rfl ⟨rfl, zBL⟩
set_option maxRecDepth 10000 in
theorem rcall_abs_k (bl o cap : Nat) (k : Int) (b : Bool) (m s : Int) (t : ByteArray) (a1 : Option Addr) (len cap1 : Nat) (w : World) (six : VT.Six w bl o k b m s t a1 len cap1) (hk : (k == 2) = false) :
  Calls Tryz.prog 34 #[.string ⟨([97, 98, 115] : List UInt8).toArray⟩, .slice (some ⟨bl, o, none⟩) 1 cap] w fun e w' => e = .returned (.tuple #[lfv 0 false 0 0 ⟨#[]⟩, .int .i64 0]) ∧ Below w.heap.size w w' := by
 have b0 := bZ w
 have O0 := Own.new w 32
 obtain ⟨s0, s1, s2, s3, s4, s5, s6⟩ := six
 go_enter Tryz.func34, Tryz.ntmps34
 go_wp2_with fail
 obtain ⟨u0, t0, t1, t2, t3, t4, t5, f0, f1, f2, f3, f4, f5⟩ := Own.fl O0
 try unfold lfv
 go_wp2_with fail
 exact bodyPost_ret (v := .tuple #[lfv 0 false 0 0 ⟨#[]⟩, .int .i64 0]) zR34lt0t1t2t3t4t5 rfl ⟨rfl, zBL⟩
set_option maxRecDepth 10000 in
theorem rcall_floor_k (bl o cap : Nat) (k : Int) (b : Bool) (m s : Int) (t : ByteArray) (a1 : Option Addr) (len cap1 : Nat) (w : World) (six : VT.Six w bl o k b m s t a1 len cap1) (hk : (k == 2) = false) :
  Calls Tryz.prog 34 #[.string ⟨([102, 108, 111, 111, 114] : List UInt8).toArray⟩, .slice (some ⟨bl, o, none⟩) 1 cap] w fun e w' => e = .returned (.tuple #[lfv 0 false 0 0 ⟨#[]⟩, .int .i64 0]) ∧ Below w.heap.size w w' := by
 have b0 := bZ w
 have O0 := Own.new w 32
 obtain ⟨s0, s1, s2, s3, s4, s5, s6⟩ := six
 go_enter Tryz.func34, Tryz.ntmps34
 go_wp2_with fail
 obtain ⟨u0, t0, t1, t2, t3, t4, t5, f0, f1, f2, f3, f4, f5⟩ := Own.fl O0
 try unfold lfv
 go_wp2_with fail
 exact bodyPost_ret (v := .tuple #[lfv 0 false 0 0 ⟨#[]⟩, .int .i64 0]) zR34lt0t1t2t3t4t5 rfl ⟨rfl, zBL⟩
set_option maxRecDepth 10000 in
theorem rcall_ceil_k (bl o cap : Nat) (k : Int) (b : Bool) (m s : Int) (t : ByteArray) (a1 : Option Addr) (len cap1 : Nat) (w : World) (six : VT.Six w bl o k b m s t a1 len cap1) (hk : (k == 2) = false) :
  Calls Tryz.prog 34 #[.string ⟨([99, 101, 105, 108] : List UInt8).toArray⟩, .slice (some ⟨bl, o, none⟩) 1 cap] w fun e w' => e = .returned (.tuple #[lfv 0 false 0 0 ⟨#[]⟩, .int .i64 0]) ∧ Below w.heap.size w w' := by
 have b0 := bZ w
 have O0 := Own.new w 32
 obtain ⟨s0, s1, s2, s3, s4, s5, s6⟩ := six
 go_enter Tryz.func34, Tryz.ntmps34
 go_wp2_with fail
 obtain ⟨u0, t0, t1, t2, t3, t4, t5, f0, f1, f2, f3, f4, f5⟩ := Own.fl O0
 try unfold lfv
 go_wp2_with fail
 exact bodyPost_ret (v := .tuple #[lfv 0 false 0 0 ⟨#[]⟩, .int .i64 0]) zR34lt0t1t2t3t4t5 rfl ⟨rfl, zBL⟩
set_option maxRecDepth 10000 in
theorem rcall_len_k (bl o cap : Nat) (k : Int) (b : Bool) (m s : Int) (t : ByteArray) (a1 : Option Addr) (len cap1 : Nat) (w : World) (six : VT.Six w bl o k b m s t a1 len cap1) (hk : (k == 3) = false) :
  Calls Tryz.prog 34 #[.string ⟨([108, 101, 110] : List UInt8).toArray⟩, .slice (some ⟨bl, o, none⟩) 1 cap] w fun e w' => e = .returned (.tuple #[lfv 0 false 0 0 ⟨#[]⟩, .int .i64 0]) ∧ Below w.heap.size w w' := by
 have b0 := bZ w
 have O0 := Own.new w 32
 obtain ⟨s0, s1, s2, s3, s4, s5, s6⟩ := six
 go_enter Tryz.func34, Tryz.ntmps34
 go_wp2_with fail
 obtain ⟨u0, t0, t1, t2, t3, t4, t5, f0, f1, f2, f3, f4, f5⟩ := Own.fl O0
 try unfold lfv
 go_wp2_with fail
 exact bodyPost_ret (v := .tuple #[lfv 0 false 0 0 ⟨#[]⟩, .int .i64 0]) zR34lt0t1t2t3t4t5 rfl ⟨rfl, zBL⟩
set_option maxRecDepth 10000 in
theorem rcall_count_k (bl o cap : Nat) (k : Int) (b : Bool) (m s : Int) (t : ByteArray) (a1 : Option Addr) (len cap1 : Nat) (w : World) (six : VT.Six w bl o k b m s t a1 len cap1) (hk : (k == 4) = false) :
  Calls Tryz.prog 34 #[.string ⟨([99, 111, 117, 110, 116] : List UInt8).toArray⟩, .slice (some ⟨bl, o, none⟩) 1 cap] w fun e w' => e = .returned (.tuple #[lfv 0 false 0 0 ⟨#[]⟩, .int .i64 0]) ∧ Below w.heap.size w w' := by
 have b0 := bZ w
 have O0 := Own.new w 32
 obtain ⟨s0, s1, s2, s3, s4, s5, s6⟩ := six
 go_enter Tryz.func34, Tryz.ntmps34
 go_wp2_with fail
 obtain ⟨u0, t0, t1, t2, t3, t4, t5, f0, f1, f2, f3, f4, f5⟩ := Own.fl O0
 try unfold lfv
 go_wp2_with fail
 exact bodyPost_ret (v := .tuple #[lfv 0 false 0 0 ⟨#[]⟩, .int .i64 0]) zR34lt0t1t2t3t4t5 rfl ⟨rfl, zBL⟩
set_option maxRecDepth 10000 in
theorem rcall_abs_y (bl o cap : Nat) (b : Bool) (m s : Int) (t : ByteArray) (a1 : Option Addr) (len cap1 : Nat) (w : World) (six : VT.Six w bl o 2 b m s t a1 len cap1) (hi : isB m s = true) :
  Calls Tryz.prog 34 #[.string ⟨([97, 98, 115] : List UInt8).toArray⟩, .slice (some ⟨bl, o, none⟩) 1 cap] w fun e w' => e = .returned (.tuple #[lfv 2 false (max m (-m)) s ⟨#[]⟩, .int .i64 0]) ∧ Below w.heap.size w w' := by
 have b0 := bZ w
 have O0 := Own.new w 32
 obtain ⟨s0, s1, s2, s3, s4, s5, s6⟩ := six
 have C := hide (fun w => rone_abs m s w hi)
 generalize (max m (-m)) = R at *
 clear hi
 go_enter Tryz.func34, Tryz.ntmps34
 go_wp2_with fail
 refine (unhide C _).mono ?_
 rintro e w1 ⟨rfl, k1⟩
 have O1 := O0.below k1
 have B1 := bstep b0 k1
 clear k1 O0 b0
 unfold Tup numV leaf
 dsimp only [VT.val]
 obtain ⟨u0, t0, t1, t2, t3, t4, t5, f0, f1, f2, f3, f4, f5⟩ := Own.fl O1
 try unfold lfv
 go_wp2_with fail
 exact bodyPost_ret (v := .tuple #[lfv 2 false R s ⟨#[]⟩, .int .i64 0]) zR34lt0t1t2t3t4t5 rfl ⟨rfl, zBL⟩
set_option maxRecDepth 10000 in
theorem rcall_floor_y (bl o cap : Nat) (b : Bool) (m s : Int) (t : ByteArray) (a1 : Option Addr) (len cap1 : Nat) (w : World) (six : VT.Six w bl o 2 b m s t a1 len cap1) (hi : isB m s = true) :
  Calls Tryz.prog 34 #[.string ⟨([102, 108, 111, 111, 114] : List UInt8).toArray⟩, .slice (some ⟨bl, o, none⟩) 1 cap] w fun e w' => e = .returned (.tuple #[lfv 2 false (m / p10 s.toNat) 0 ⟨#[]⟩, .int .i64 0]) ∧ Below w.heap.size w w' := by
 have b0 := bZ w
 have O0 := Own.new w 32
 obtain ⟨s0, s1, s2, s3, s4, s5, s6⟩ := six
 have C := hide (fun w => rone_floor m s w hi)
 generalize (m / p10 s.toNat) = R at *
 clear hi
 go_enter Tryz.func34, Tryz.ntmps34
 go_wp2_with fail
 refine (unhide C _).mono ?_
 rintro e w1 ⟨rfl, k1⟩
 have O1 := O0.below k1
 have B1 := bstep b0 k1
 clear k1 O0 b0
 unfold Tup numV leaf
 dsimp only [VT.val]
 obtain ⟨u0, t0, t1, t2, t3, t4, t5, f0, f1, f2, f3, f4, f5⟩ := Own.fl O1
 try unfold lfv
 go_wp2_with fail
 exact bodyPost_ret (v := .tuple #[lfv 2 false R 0 ⟨#[]⟩, .int .i64 0]) zR34lt0t1t2t3t4t5 rfl ⟨rfl, zBL⟩
set_option maxRecDepth 10000 in
theorem rcall_ceil_y (bl o cap : Nat) (b : Bool) (m s : Int) (t : ByteArray) (a1 : Option Addr) (len cap1 : Nat) (w : World) (six : VT.Six w bl o 2 b m s t a1 len cap1) (hi : isB m s = true) :
  Calls Tryz.prog 34 #[.string ⟨([99, 101, 105, 108] : List UInt8).toArray⟩, .slice (some ⟨bl, o, none⟩) 1 cap] w fun e w' => e = .returned (.tuple #[lfv 2 false (-(-m / p10 s.toNat)) 0 ⟨#[]⟩, .int .i64 0]) ∧ Below w.heap.size w w' := by
 have b0 := bZ w
 have O0 := Own.new w 32
 obtain ⟨s0, s1, s2, s3, s4, s5, s6⟩ := six
 have C := hide (fun w => rone_ceil m s w hi)
 generalize (-(-m / p10 s.toNat)) = R at *
 clear hi
 go_enter Tryz.func34, Tryz.ntmps34
 go_wp2_with fail
 refine (unhide C _).mono ?_
 rintro e w1 ⟨rfl, k1⟩
 have O1 := O0.below k1
 have B1 := bstep b0 k1
 clear k1 O0 b0
 unfold Tup numV leaf
 dsimp only [VT.val]
 obtain ⟨u0, t0, t1, t2, t3, t4, t5, f0, f1, f2, f3, f4, f5⟩ := Own.fl O1
 try unfold lfv
 go_wp2_with fail
 exact bodyPost_ret (v := .tuple #[lfv 2 false R 0 ⟨#[]⟩, .int .i64 0]) zR34lt0t1t2t3t4t5 rfl ⟨rfl, zBL⟩
set_option maxRecDepth 10000 in
theorem rcall_not_y (bl o cap : Nat) (k : Int) (b : Bool) (m s : Int) (t : ByteArray) (a1 : Option Addr) (len cap1 : Nat) (w : World) (six : VT.Six w bl o k b m s t a1 len cap1) :
  Calls Tryz.prog 34 #[.string ⟨([110, 111, 116] : List UInt8).toArray⟩, .slice (some ⟨bl, o, none⟩) 1 cap] w fun e w' => e = .returned (.tuple #[tval (notK k) (notB k b), .int .i64 0]) ∧ Below w.heap.size w w' := by
 have b0 := bZ w
 have O0 := Own.new w 32
 obtain ⟨s0, s1, s2, s3, s4, s5, s6⟩ := six
 have C := hide (fun w => rnot_any k b m s t a1 len cap1 w)
 generalize notK k = K at *
 generalize notB k b = BB at *
 go_enter Tryz.func34, Tryz.ntmps34
 go_wp2_with fail
 refine (unhide C _).mono ?_
 rintro e w1 ⟨rfl, k1⟩
 have O1 := O0.below k1
 have B1 := bstep b0 k1
 clear k1 O0 b0
 unfold tval
 obtain ⟨u0, t0, t1, t2, t3, t4, t5, f0, f1, f2, f3, f4, f5⟩ := Own.fl O1
 try unfold lfv
 go_wp2_with fail
 exact bodyPost_ret (v := .tuple #[lfv K BB 0 0 ⟨#[]⟩, .int .i64 0]) zR34lt0t1t2t3t4t5 rfl ⟨rfl, zBL⟩
set_option maxRecDepth 10000 in
theorem rcall_len_y (bl o cap : Nat) (b : Bool) (m s : Int) (t : ByteArray) (a1 : Option Addr) (len cap1 : Nat) (w : World) (six : VT.Six w bl o 3 b m s t a1 len cap1) (ht : t.size ≤ maxLen) :
  Calls Tryz.prog 34 #[.string ⟨([108, 101, 110] : List UInt8).toArray⟩, .slice (some ⟨bl, o, none⟩) 1 cap] w fun e w' => e = .returned (.tuple #[lfv 2 false (t.size : Nat) 0 ⟨#[]⟩, .int .i64 0]) ∧ Below w.heap.size w w' := by
 have b0 := bZ w
 have O0 := Own.new w 32
 obtain ⟨s0, s1, s2, s3, s4, s5, s6⟩ := six
 have C := hide (fun w => rwhole_any ((t.size : Nat) : Int) w)
 go_enter Tryz.func34, Tryz.ntmps34
 go_wp2_with fail
 refine (unhide C _).mono ?_
 rintro e w1 ⟨rfl, k1⟩
 have O1 := O0.below k1
 have B1 := bstep b0 k1
 clear k1 O0 b0
 unfold lfv
 obtain ⟨u0, t0, t1, t2, t3, t4, t5, f0, f1, f2, f3, f4, f5⟩ := Own.fl O1
 try unfold lfv
 go_wp2_with fail
 exact bodyPost_ret (v := .tuple #[lfv 2 false (t.size : Nat) 0 ⟨#[]⟩, .int .i64 0]) zR34lt0t1t2t3t4t5 rfl ⟨rfl, zBL⟩
set_option maxRecDepth 10000 in
theorem rcall_count_y (bl o cap : Nat) (b : Bool) (m s : Int) (t : ByteArray) (a1 : Option Addr) (len cap1 : Nat) (w : World) (six : VT.Six w bl o 4 b m s t a1 len cap1) :
  Calls Tryz.prog 34 #[.string ⟨([99, 111, 117, 110, 116] : List UInt8).toArray⟩, .slice (some ⟨bl, o, none⟩) 1 cap] w fun e w' => e = .returned (.tuple #[lfv 2 false (len : Nat) 0 ⟨#[]⟩, .int .i64 0]) ∧ Below w.heap.size w w' := by
 have b0 := bZ w
 have O0 := Own.new w 32
 obtain ⟨s0, s1, s2, s3, s4, s5, s6⟩ := six
 have C := hide (fun w => rwhole_any ((len : Nat) : Int) w)
 go_enter Tryz.func34, Tryz.ntmps34
 go_wp2_with fail
 refine (unhide C _).mono ?_
 rintro e w1 ⟨rfl, k1⟩
 have O1 := O0.below k1
 have B1 := bstep b0 k1
 clear k1 O0 b0
 unfold lfv
 obtain ⟨u0, t0, t1, t2, t3, t4, t5, f0, f1, f2, f3, f4, f5⟩ := Own.fl O1
 try unfold lfv
 go_wp2_with fail
 exact bodyPost_ret (v := .tuple #[lfv 2 false (len : Nat) 0 ⟨#[]⟩, .int .i64 0]) zR34lt0t1t2t3t4t5 rfl ⟨rfl, zBL⟩
set_option maxRecDepth 10000 in
theorem rcall_mod_k (a : Option Addr) (cap : Nat) (l : List VT) (w : World) (hin : (rowT a cap l).In w) (e1 : ((l.length : Int) == 2) = true) (hall : (l.all fun v => kdV v == 2) = false) :
  Calls Tryz.prog 34 #[.string ⟨([109, 111, 100] : List UInt8).toArray⟩, .slice a l.length cap] w fun e w' => e = .returned (.tuple #[lfv 0 false 0 0 ⟨#[]⟩, .int .i64 0]) ∧ Below w.heap.size w w' := by
 have b0 := bZ w
 have O0 := Own.new w 32
 have hin1 := hide (hin.below b0)
 have C := hide (fun w h => rallE_any 2 a cap l w h)
 rw [hall] at C
 clear hin hall
 go_enter Tryz.func34, Tryz.ntmps34
 go_wp2_with fail
 refine (unhide C _ (unhide hin1)).mono ?_
 rintro e w1 ⟨rfl, k1⟩
 have O1 := O0.below k1
 have B1 := bstep b0 k1
 clear k1 O0 b0
 obtain ⟨u0, t0, t1, t2, t3, t4, t5, f0, f1, f2, f3, f4, f5⟩ := Own.fl O1
 try unfold lfv
 go_wp2_with fail
 exact bodyPost_ret (v := .tuple #[lfv 0 false 0 0 ⟨#[]⟩, .int .i64 0]) zR34lt0t1t2t3t4t5 rfl ⟨rfl, zBL⟩
set_option maxRecDepth 10000 in
theorem rcall_has_k (bl o cap : Nat) (k : Int) (b : Bool) (m s : Int) (t : ByteArray) (a1 : Option Addr) (len cap1 : Nat) (k' : Int) (b' : Bool) (m' s' : Int) (t' : ByteArray) (a' : Option Addr) (len' cap' : Nat) (w : World) (six : VT.Six w bl o k b m s t a1 len cap1) (six' : VT.Six w bl (o + 6) k' b' m' s' t' a' len' cap') (hk : (k == 4) = false) :
  Calls Tryz.prog 34 #[.string ⟨([104, 97, 115] : List UInt8).toArray⟩, .slice (some ⟨bl, o, none⟩) 2 cap] w fun e w' => e = .returned (.tuple #[lfv 0 false 0 0 ⟨#[]⟩, .int .i64 0]) ∧ Below w.heap.size w w' := by
 have b0 := bZ w
 have O0 := Own.new w 32
 obtain ⟨s0, s1, s2, s3, s4, s5, s6⟩ := six
 go_enter Tryz.func34, Tryz.ntmps34
 go_wp2_with fail
 obtain ⟨u0, t0, t1, t2, t3, t4, t5, f0, f1, f2, f3, f4, f5⟩ := Own.fl O0
 try unfold lfv
 go_wp2_with fail
 exact bodyPost_ret (v := .tuple #[lfv 0 false 0 0 ⟨#[]⟩, .int .i64 0]) zR34lt0t1t2t3t4t5 rfl ⟨rfl, zBL⟩
set_option maxRecDepth 10000 in
theorem rcall_mod_y (bl o cap : Nat) (b : Bool) (m s : Int) (t : ByteArray) (a1 : Option Addr) (len cap1 : Nat) (b' : Bool) (m' s' : Int) (t' : ByteArray) (a' : Option Addr) (len' cap' : Nat) (w : World) (six : VT.Six w bl o 2 b m s t a1 len cap1) (six' : VT.Six w bl (o + 6) 2 b' m' s' t' a' len' cap') (K : Int) (BB : Bool) (M' SS : Int) (TT : ByteArray) (hin : Hid (∀ w', Below w.heap.size w w' → Calls Tryz.prog 66 #[.slice (some ⟨bl, o, none⟩) 2 cap, .int .i64 2] w' fun e w'' => e = .returned (.bool true) ∧ Below w'.heap.size w' w'')) (C : Hid (∀ w, Calls Tryz.prog 67 #[.agg #[.int .i64 m, .int .i64 s], .agg #[.int .i64 m', .int .i64 s']] w fun e w' => e = .returned (lfv K BB M' SS TT) ∧ Below w.heap.size w w')) :
  Calls Tryz.prog 34 #[.string ⟨([109, 111, 100] : List UInt8).toArray⟩, .slice (some ⟨bl, o, none⟩) 2 cap] w fun e w' => e = .returned (.tuple #[lfv K BB M' SS TT, .int .i64 0]) ∧ Below w.heap.size w w' := by
 have b0 := bZ w
 have O0 := Own.new w 32
 have AL := unhide hin _ b0
 go_enter Tryz.func34, Tryz.ntmps34
 go_wp2_with fail
 refine AL.mono ?_
 rintro e w1 ⟨rfl, k1⟩
 have O1 := O0.below k1
 have B1 := bstep b0 k1
 obtain ⟨s0, s1, s2, s3, s4, s5, s6⟩ := (six.below b0).below k1
 obtain ⟨r0, r1, r2, r3, r4, r5, r6⟩ := (six'.below b0).below k1
 have hbw := six.1
 go_upto_region 17 with fail
 obtain ⟨S, HS⟩ : ∃ S : World → Prop, S = fun w' => Below w.heap.size w w' ∧ w'.cell? ⟨bl, o + 2, none⟩ = some (.int .i64 m) ∧ w'.cell? ⟨bl, o + 3, none⟩ = some (.int .i64 s) ∧ w'.cell? ⟨bl, o + 6 + 2, none⟩ = some (.int .i64 m') ∧ w'.cell? ⟨bl, o + 6 + 3, none⟩ = some (.int .i64 s') := ⟨_, rfl⟩
 have HSS := hide HS
 have S0V : S w1 := by rw [HS]; exact ⟨B1, s3, s4, r3, r4⟩
 have S0V := hide S0V
 have SB : Hid (∀ x, S x → Below w.heap.size w x) := hide (by rw [HS]; exact fun x h => h.1)
 have SKC : Hid (∀ x w' : World, S x → Below x.heap.size x w' → S w') := hide (by
  rw [HS]; rintro x w' ⟨h0, h1, h2, h3, h4⟩ kk
  exact ⟨bstep h0 kk, kcl kk h1, kcl kk h2, kcl kk h3, kcl kk h4⟩)
 have SST : Hid (∀ (x : World) (p0 p1 p2 p3 p4 p5 : Value), S x → S ((((((x.setCell ⟨w.heap.size, 0, none⟩ p0).setCell ⟨w.heap.size, 1, none⟩ p1).setCell ⟨w.heap.size, 2, none⟩ p2).setCell ⟨w.heap.size, 3, none⟩ p3).setCell ⟨w.heap.size, 4, none⟩ p4).setCell ⟨w.heap.size, 5, none⟩ p5)) := hide (by
  rw [HS]; rintro x p0 p1 p2 p3 p4 p5 ⟨h0, h1, h2, h3, h4⟩
  exact ⟨set6 h0 (by omega) _ _ _ _ _ _, (put6_cell (by omega) _ _ _ _ _ _).trans h1, (put6_cell (by omega) _ _ _ _ _ _).trans h2, (put6_cell (by omega) _ _ _ _ _ _).trans h3, (put6_cell (by omega) _ _ _ _ _ _).trans h4⟩)
 clear HS
 clear k1 O0 b0 six six' s0 s1 s2 s3 s4 s5 s6 r0 r1 r2 r3 r4 r5 r6 AL hin
 refine wp_region_noPanic ?_
 refine wp_region_held_drew (S := S) (by kernel_rfl) (unhide SKC _ _ (unhide S0V) (Below.refl _ _).drew) (fun hHeld => ?_)
 have jda : Below w1.heap.size w1 w1.drew := (Below.refl _ _).drew
 have o0ba := Own.below O1 jda
 clear jda
 generalize w1.drew = u0a at *
 refine takeC 0 (some 57) ?_
 refine takeC 1 (some 58) ?_
 refine takeC 2 (some 59) ?_
 refine takeC 3 (some 60) ?_
 refine takeC 4 (some 61) ?_
 refine takeC 5 (some 62) ?_
 refine takeC 6 (some 63) ?_
 refine takeC 7 (some 64) ?_
 refine wpAnyH_ready (rs := [8]) (by kernel_rfl) (by simp) ?_
 refine AllReadyH.cons rfl (fun K0 hK0 => ?_) AllReadyH.nil
 go_simp
 refine (unhide C _).mono ?_
 rintro e u1a ⟨rfl, j1a⟩
 unfold lfv
 go_wp2_with fail
 refine hK0.out _ _ (unhide SKC _ _ hHeld j1a) (fun hHeld1 => ?_)
 clear hK0 K0
 have o1ba := o0ba.below j1a
 clear j1a
 clear hHeld o0ba
 have hHeld := hHeld1
 clear hHeld1
 try simp only [Act.put, List.setIfInBounds_toArray, List.set_cons_zero, List.set_cons_succ]
 refine wpAnyH_ready (rs := [9]) (by kernel_rfl) (by simp) ?_
 refine AllReadyH.cons rfl (fun K0 hK0 => ?_) AllReadyH.nil
 obtain ⟨⟨-, e0, e1, e2, e3, e4, e5⟩, f0, f1, f2, f3, f4, f5⟩ := id o1ba
 simp only [Nat.zero_add] at e0 e1 e2 e3 e4 e5
 go_simp
 clear e0 e1 e2 e3 e4 e5 f0 f1 f2 f3 f4 f5
 refine hK0.out _ _ (unhide SST _ _ _ _ _ _ _ hHeld) (fun hHeld1 => ?_)
 clear hK0 K0
 have s2ba := Own.put o1ba K BB M' SS TT none 0 0
 generalize ((((((u1a.setCell ⟨w.heap.size, 0, none⟩ (.int .i64 K)).setCell ⟨w.heap.size, 1, none⟩ (.bool BB)).setCell ⟨w.heap.size, 2, none⟩ (.int .i64 M')).setCell ⟨w.heap.size, 3, none⟩ (.int .i64 SS)).setCell ⟨w.heap.size, 4, none⟩ (.string TT)).setCell ⟨w.heap.size, 5, none⟩ (.slice none 0 0)) = u2a at *
 clear hHeld o1ba
 have hHeld := hHeld1
 clear hHeld1
 try simp only [Act.put, List.setIfInBounds_toArray, List.set_cons_zero, List.set_cons_succ]
 refine takeC 10 (some 5) ?_
 refine wpAnyH_done (by kernel_rfl) ?_ _
 refine NoPanic.normal ?_
 have BQ := unhide SB _ hHeld
 clear hHeld
 obtain ⟨t9, t0, t1, t2, t3, t4, t5⟩ := s2ba
 simp only [Nat.zero_add] at t0 t1 t2 t3 t4 t5
 go_wp2_with fail
 exact bodyPost_ret (v := .tuple #[lfv K BB M' SS TT, .int .i64 0]) zR34lt0t1t2t3t4t5 rfl ⟨rfl, BQ⟩
set_option maxRecDepth 10000 in
theorem rcall_has_y (bl o cap : Nat) (b : Bool) (m s : Int) (t : ByteArray) (a1 : Option Addr) (len cap1 : Nat) (k' : Int) (b' : Bool) (m' s' : Int) (t' : ByteArray) (a' : Option Addr) (len' cap' : Nat) (w : World) (six : VT.Six w bl o 4 b m s t a1 len cap1) (six' : VT.Six w bl (o + 6) k' b' m' s' t' a' len' cap') (K : Int) (BB : Bool) (M' SS : Int) (TT : ByteArray) (C : Hid (∀ w', Below w.heap.size w w' → Calls Tryz.prog 69 #[.slice a1 len cap1, .agg #[.int .i64 k', .bool b', .int .i64 m', .int .i64 s', .string t', .slice a' len' cap']] w' fun e w'' => e = .returned (lfv K BB M' SS TT) ∧ Below w'.heap.size w' w'')) :
  Calls Tryz.prog 34 #[.string ⟨([104, 97, 115] : List UInt8).toArray⟩, .slice (some ⟨bl, o, none⟩) 2 cap] w fun e w' => e = .returned (.tuple #[lfv K BB M' SS TT, .int .i64 0]) ∧ Below w.heap.size w w' := by
 have b0 := bZ w
 have O0 := Own.new w 32
 obtain ⟨s0, s1, s2, s3, s4, s5, s6⟩ := six.below b0
 obtain ⟨r0, r1, r2, r3, r4, r5, r6⟩ := six'.below b0
 have hbw := six.1
 go_enter Tryz.func34, Tryz.ntmps34
 go_upto_region 26 with fail
 generalize w.alloc (Obj.cells #[.int .i64 0, .bool false, .int .i64 0, .int .i64 0, .string ⟨#[]⟩, .slice none 0 0] 32) = V at *
 obtain ⟨S, HS⟩ : ∃ S : World → Prop, S = fun w' => Below w.heap.size w w' ∧ w'.cell? ⟨bl, o + 5, none⟩ = some (.slice a1 len cap1) ∧ w'.cell? ⟨bl, o + 6, none⟩ = some (.int .i64 k') ∧ w'.cell? ⟨bl, o + 6 + 1, none⟩ = some (.bool b') ∧ w'.cell? ⟨bl, o + 6 + 2, none⟩ = some (.int .i64 m') ∧ w'.cell? ⟨bl, o + 6 + 3, none⟩ = some (.int .i64 s') ∧ w'.cell? ⟨bl, o + 6 + 4, none⟩ = some (.string t') ∧ w'.cell? ⟨bl, o + 6 + 5, none⟩ = some (.slice a' len' cap') := ⟨_, rfl⟩
 have HSS := hide HS
 have S0V : S V := by rw [HS]; exact ⟨b0, s6, r1, r2, r3, r4, r5, r6⟩
 have S0V := hide S0V
 have SB : Hid (∀ x, S x → Below w.heap.size w x) := hide (by rw [HS]; exact fun x h => h.1)
 have SKC : Hid (∀ x w' : World, S x → Below x.heap.size x w' → S w') := hide (by
  rw [HS]; rintro x w' ⟨h0, h1, h2, h3, h4, h5, h6, h7⟩ kk
  exact ⟨bstep h0 kk, kcl kk h1, kcl kk h2, kcl kk h3, kcl kk h4, kcl kk h5, kcl kk h6, kcl kk h7⟩)
 have SST : Hid (∀ (x : World) (p0 p1 p2 p3 p4 p5 : Value), S x → S ((((((x.setCell ⟨w.heap.size, 0, none⟩ p0).setCell ⟨w.heap.size, 1, none⟩ p1).setCell ⟨w.heap.size, 2, none⟩ p2).setCell ⟨w.heap.size, 3, none⟩ p3).setCell ⟨w.heap.size, 4, none⟩ p4).setCell ⟨w.heap.size, 5, none⟩ p5)) := hide (by
  rw [HS]; rintro x p0 p1 p2 p3 p4 p5 ⟨h0, h1, h2, h3, h4, h5, h6, h7⟩
  exact ⟨set6 h0 (by omega) _ _ _ _ _ _, (put6_cell (by omega) _ _ _ _ _ _).trans h1, (put6_cell (by omega) _ _ _ _ _ _).trans h2, (put6_cell (by omega) _ _ _ _ _ _).trans h3, (put6_cell (by omega) _ _ _ _ _ _).trans h4, (put6_cell (by omega) _ _ _ _ _ _).trans h5, (put6_cell (by omega) _ _ _ _ _ _).trans h6, (put6_cell (by omega) _ _ _ _ _ _).trans h7⟩)
 clear HS
 clear six six' s0 s1 s2 s3 s4 s5 s6 r0 r1 r2 r3 r4 r5 r6
 refine wp_region_noPanic ?_
 refine wp_region_held_drew (S := S) (by kernel_rfl) (unhide SKC _ _ (unhide S0V) (Below.refl _ _).drew) (fun hHeld => ?_)
 have jda : Below V.heap.size V V.drew := (Below.refl _ _).drew
 have o0ba := Own.below O0 jda
 clear jda
 generalize V.drew = u0a at *
 refine takeC 0 (some 114) ?_
 refine takeC 1 (some 115) ?_
 refine takeC 2 (some 116) ?_
 refine takeC 3 (some 117) ?_
 refine takeC 4 (some 118) ?_
 refine takeC 5 (some 119) ?_
 refine takeC 6 (some 120) ?_
 refine wpAnyH_ready (rs := [7]) (by kernel_rfl) (by simp) ?_
 refine AllReadyH.cons rfl (fun K0 hK0 => ?_) AllReadyH.nil
 go_simp
 refine (unhide C _ (unhide SB _ hHeld)).mono ?_
 rintro e u1a ⟨rfl, j1a⟩
 unfold lfv
 go_wp2_with fail
 refine hK0.out _ _ (unhide SKC _ _ hHeld j1a) (fun hHeld1 => ?_)
 clear hK0 K0
 have o1ba := o0ba.below j1a
 clear j1a
 clear hHeld o0ba
 have hHeld := hHeld1
 clear hHeld1
 try simp only [Act.put, List.setIfInBounds_toArray, List.set_cons_zero, List.set_cons_succ]
 refine wpAnyH_ready (rs := [8]) (by kernel_rfl) (by simp) ?_
 refine AllReadyH.cons rfl (fun K0 hK0 => ?_) AllReadyH.nil
 obtain ⟨⟨-, e0, e1, e2, e3, e4, e5⟩, f0, f1, f2, f3, f4, f5⟩ := id o1ba
 simp only [Nat.zero_add] at e0 e1 e2 e3 e4 e5
 go_simp
 clear e0 e1 e2 e3 e4 e5 f0 f1 f2 f3 f4 f5
 refine hK0.out _ _ (unhide SST _ _ _ _ _ _ _ hHeld) (fun hHeld1 => ?_)
 clear hK0 K0
 have s2ba := Own.put o1ba K BB M' SS TT none 0 0
 generalize ((((((u1a.setCell ⟨w.heap.size, 0, none⟩ (.int .i64 K)).setCell ⟨w.heap.size, 1, none⟩ (.bool BB)).setCell ⟨w.heap.size, 2, none⟩ (.int .i64 M')).setCell ⟨w.heap.size, 3, none⟩ (.int .i64 SS)).setCell ⟨w.heap.size, 4, none⟩ (.string TT)).setCell ⟨w.heap.size, 5, none⟩ (.slice none 0 0)) = u2a at *
 clear hHeld o1ba
 have hHeld := hHeld1
 clear hHeld1
 try simp only [Act.put, List.setIfInBounds_toArray, List.set_cons_zero, List.set_cons_succ]
 refine takeC 9 (some 5) ?_
 refine wpAnyH_done (by kernel_rfl) ?_ _
 refine NoPanic.normal ?_
 have BQ := unhide SB _ hHeld
 clear hHeld
 obtain ⟨t9, t0, t1, t2, t3, t4, t5⟩ := s2ba
 simp only [Nat.zero_add] at t0 t1 t2 t3 t4 t5
 go_wp2_with fail
 exact bodyPost_ret (v := .tuple #[lfv K BB M' SS TT, .int .i64 0]) zR34lt0t1t2t3t4t5 rfl ⟨rfl, BQ⟩
end
section
open VT (leaf mkV)
def vsC (l : List VT) : List Value := l.flatMap VT.cells
def Vals (N B : Nat) (w : World) (v : Value) (l : List VT) : Prop :=
 w.ownsRow B 32 6 v l.length (vsC l) ∧ ∀ x ∈ l, x.In w ∧ x.Lies (fun h => (h < N ∨ B ≤ h) ∧ some h ≠ v.ownBlock)
theorem Vals.nil (N B : Nat) (w : World) : Vals N B w (.slice none 0 0) [] := ⟨World.ownsRow_nil _ _ _ _, fun x hx => absurd hx List.not_mem_nil⟩
theorem Vals.below {N B : Nat} {w w' : World} {v : Value} {l : List VT} (h : Vals N B w v l) (m : Below w.heap.size w w') : Vals N B w' v l := by
 refine ⟨⟨h.1.1, ?_⟩, fun x hx => ⟨(h.2 x hx).1.below m, (h.2 x hx).2⟩⟩
 rcases h.1.2 with h0 | ⟨g, cap, cur, hv, hB, hg, hr⟩
 ·exact Or.inl h0
 ·exact Or.inr ⟨g, cap, cur, hv, hB, (m.block g (Array.getElem?_eq_some_iff.1 hg).1).trans hg, hr⟩
theorem Vals.alloc {N B : Nat} {w : World} {v : Value} {l : List VT} (h : Vals N B w v l) (o : Obj) : Vals N B (w.alloc o) v l := h.below (below1 w o)
theorem Vals.lt {N B : Nat} {w : World} {v : Value} {l : List VT} (h : Vals N B w v l) : ∀ g, v.ownBlock = some g → B ≤ g ∧ g < w.heap.size := h.1.lt
theorem Vals.form {N B : Nat} {w : World} {v : Value} {l : List VT} (h : Vals N B w v l) : ∃ ka kc, v = .slice ka l.length kc := by
 rcases h.1.2 with ⟨rfl, hn⟩ | ⟨g', cap, cur, rfl, hB, hh, hr⟩
 ·exact ⟨none, 0, by rw [hn]⟩
 ·exact ⟨_, _, rfl⟩
theorem in_six {w : World} {x : VT} (h : x.In w) : x.cells.length = 6 := by
 obtain ⟨k, b, m, s, t, a, len, cap, kid, rfl⟩ := h.form
 rfl
theorem vsC_get (l : List VT) (hl : ∀ x ∈ l, x.cells.length = 6) : ∀ i (h : i < l.length) j, j < 6 → (vsC l)[i * 6 + j]? = l[i].cells[j]? := by
 induction l with
 | nil => intro i h; exact absurd h (Nat.not_lt_zero _)
 | cons x l ih =>
  intro i hi j hj
  have hx := hl x (by simp)
  rw [vsC, List.flatMap_cons]
  cases i with
  | zero => rw [List.getElem?_append_left (by omega)]; simp
  | succ i =>
   rw [List.getElem?_append_right (by omega)]
   have e : (i + 1) * 6 + j - x.cells.length = i * 6 + j := by omega
   rw [e, ← vsC, ih (fun y hy => hl y (by simp [hy])) i (by simpa using hi) j hj]
   simp
theorem Vals.row {N B : Nat} {w : World} {l : List VT} {ka : Option Addr} {n kc : Nat} (h : Vals N B w (.slice ka n kc) l) : n = l.length ∧ (rowT ka kc l).In w ∧ (rowT ka kc l).Lies (fun h => h < N ∨ B ≤ h) := by
 obtain ⟨ka', kc', hv'⟩ := h.form
 cases hv'
 have key : ∀ i, i < l.length → ∃ bl, ka = some ⟨bl, 0, none⟩ ∧ B ≤ bl ∧ ∀ j, j < 6 → w.cell? ⟨bl, i * 6 + j, none⟩ = l[i]?.bind (fun x => x.cells[j]?) := by
  intro i hi
  obtain ⟨g, cap, hg, hB, hlt⟩ := h.1.form (by omega)
  obtain ⟨rfl, rfl⟩ : ka = some ⟨g, 0, none⟩ ∧ kc = cap := by simpa using hg
  refine ⟨g, rfl, hB, fun j hj => ?_⟩
  rw [h.1.cellAt (i * 6 + j) (by omega), vsC_get l (fun x hx => in_six (h.2 x hx).1) i hi j hj]
  simp [hi]
 have hc : l.length ≤ kc ∧ kc ≤ maxLen := by
  rcases h.1.2 with ⟨hs, h0⟩ | ⟨g', cap, cur, hs, hB, hh, hr, hm, -⟩
  ·obtain ⟨-, -, rfl⟩ : ka = none ∧ l.length = 0 ∧ kc = 0 := by simpa using hs
   exact ⟨by omega, Nat.zero_le _⟩
  ·obtain ⟨-, rfl⟩ : ka = some ⟨g', 0, none⟩ ∧ kc = cap := by simpa using hs
   exact ⟨hr, hm⟩
 unfold rowT
 refine ⟨rfl, ⟨⟨rfl, rfl, rfl, Nat.zero_le _, hc.1, hc.2⟩, fun i hi => ?_⟩, fun i hi => ?_⟩
 ·obtain ⟨bl, ha, -, hcl⟩ := key i hi
  have e : l.getD i .none = l[i] := getD_eq hi
  dsimp only
  rw [e]
  refine ⟨⟨bl, 0, ha, fun j hj => ?_⟩, (h.2 _ (List.getElem_mem hi)).1⟩
  rw [Nat.zero_add, hcl j hj]
  simp [hi]
 ·obtain ⟨bl, ha, hB, -⟩ := key i hi
  have e : l.getD i .none = l[i] := getD_eq hi
  dsimp only
  rw [e]
  exact ⟨⟨bl, 0, ha, .inr hB⟩, ((h.2 _ (List.getElem_mem hi)).2).weak (fun g hg => hg.1)⟩
theorem vsC_snoc (l : List VT) (x : VT) : vsC (l ++ [x]) = vsC l ++ x.cells := by simp [vsC]
theorem wpList_v {w : World} {ops : Array Oper} {rest : List Oper} {o : Oper} {ac : Act} {P : Exit → Act → World → Prop} (hgd : o.guard = none) (s x : Operand)
  (ho : o.op = .call { callee := .builtin .append, args := #[s, x], argTypes := #[30, 30] }) (N B : Nat) (v : Value) (l : List VT) (hs : ac.eval s = v) (own : Vals N B w v l)
  (g : Nat) {k : Int} {b : Bool} {m sc : Int} {t : ByteArray} {a : Option Addr} {len cap : Nat} {kid : Nat → VT} (hT : (VT.mk k b m sc t a len cap kid).In w) (hL : (VT.mk k b m sc t a len cap kid).Lies (fun h => (h < N ∨ B ≤ h) ∧ some h ≠ v.ownBlock))
  (hx : ac.eval x = .slice (some ⟨g, 0, none⟩) 1 1) (hc : VT.Six w g 0 k b m sc t a len cap)
  (hn : l.length ≤ 1759218604390) (hB : B ≤ w.heap.size)
  (h : ∀ v' w', Vals N B w' v' (l ++ [VT.mk k b m sc t a len cap kid]) → w.grownBy w' v.ownBlock → wpList Tryz.prog ops P rest (ac.put o.dst v') w') : wpList Tryz.prog ops P (o :: rest) ac w := by
 obtain ⟨i, hi, hzz⟩ := Option.map_eq_some_iff.1 infoVal
 simp only [Prod.mk.injEq] at hzz
 obtain ⟨hz, hz1, hz2⟩ := hzz
 refine wpList_append_lies w hgd s x 30 ho B 32 i _ 6 72 Tryz.underlying30 hi hz hz1 hz2 rfl (by omega) v l.length (vsC l) hs own.1 ⟨g, 0, none⟩ 1 1 (VT.cells (VT.mk k b m sc t a len cap kid)) hx rfl ?_ ?_ (by omega) (by unfold maxLen; omega) (by omega) hB _ rfl ?_
 ·intro j u hu
  have hadd : (⟨g, 0, none⟩ : Addr).add j = ⟨g, j, none⟩ := by unfold Addr.add; split <;> simp_all
  rw [hadd]
  obtain ⟨h0, h1, h2, h3, h4, h5, h6⟩ := hc
  simp only [Nat.zero_add] at h1 h2 h3 h4 h5 h6
  match j, hu with
  | 0, hu => exact h1.trans hu
  | 1, hu => exact h2.trans hu
  | 2, hu => exact h3.trans hu
  | 3, hu => exact h4.trans hu
  | 4, hu => exact h5.trans hu
  | 5, hu => exact h6.trans hu
  | j + 6, hu => simp [VT.cells] at hu
 ·intro u hu
  simp [VT.cells] at hu
  rcases hu with rfl | rfl | rfl | rfl | rfl | rfl <;> rfl
 ·intro g' cap' w' own' gr hg' hlt
  have key : ∀ y : VT, y.In w → y.Lies (fun h => (h < N ∨ B ≤ h) ∧ some h ≠ v.ownBlock) → y.In w' ∧ y.Lies (fun h => (h < N ∨ B ≤ h) ∧ some h ≠ (Value.slice (some ⟨g', 0, none⟩) (l.length + 1) cap').ownBlock) := by
   intro y hy hl
   refine ⟨VT.In.kept (fun bl o hbl hq => World.cell?_of_block (w := w) (gr.block bl hbl hq.2)) y hy hl, ?_⟩
   refine (hl.and hy.lies).weak (fun h hh => ⟨hh.1.1, fun e => ?_⟩)
   simp only [Value.ownBlock, Option.some.injEq] at e
   subst e
   rcases hg' with e | e
   ·exact hh.1.2 e.symm
   ·have := hh.2; omega
  refine h _ w' ⟨?_, ?_⟩ gr
  ·rw [vsC_snoc, List.length_append]
   exact own'
  ·intro y hy
   rw [List.mem_append] at hy
   rcases hy with hy | hy
   ·exact key y (own.2 y hy).1 (own.2 y hy).2
   ·rw [List.mem_singleton] at hy
    subst hy
    exact key _ hT hL
end
end Go.Proofs.YtfdimdjmnfdecaaGreat

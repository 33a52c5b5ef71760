/- REk11 REAll EMay: laid together. -/
import Derived.Test.YtfdimdjmnfdecaaGreatKBM
set_option linter.unusedVariables false
set_option linter.unusedSimpArgs false
set_option maxHeartbeats 8000000
namespace Go.Proofs.YtfdimdjmnfdecaaGreat
open Go.RowKit
section
open VT (leaf mkV)
theorem row_three {a : Option Addr} {cap : Nat} {l : List VT} {w : World} (hin : (rowT a cap l).In w) (hl : l.length = 3) : ∃ bl o k b m s t a1 len cap1 kid k' b' m' s' t' a' len' cap' kid' k2 b2 m2 s2 t2 a2 len2 cap2 kid2, a = some ⟨bl, o, none⟩ ∧ l = [VT.mk k b m s t a1 len cap1 kid, VT.mk k' b' m' s' t' a' len' cap' kid', VT.mk k2 b2 m2 s2 t2 a2 len2 cap2 kid2] ∧ VT.Six w bl o k b m s t a1 len cap1 ∧ VT.Six w bl (o + 6) k' b' m' s' t' a' len' cap' ∧ VT.Six w bl (o + 12) k2 b2 m2 s2 t2 a2 len2 cap2 ∧ (VT.mk k b m s t a1 len cap1 kid).In w ∧ (VT.mk k' b' m' s' t' a' len' cap' kid').In w ∧ (VT.mk k2 b2 m2 s2 t2 a2 len2 cap2 kid2).In w := by
 obtain ⟨x, y, z, rfl⟩ : ∃ x y z, l = [x, y, z] := by
  match l, hl with
  | [x, y, z], _ => exact ⟨x, y, z, rfl⟩
 obtain ⟨bl, o, k, b, m, s, t, a1, len, cap1, kid, rfl, hx, six, hk⟩ := hin.kid (i := 0) (by simp)
 obtain ⟨bl2, o2, k', b', m', s', t', a', len', cap', kid', hbl, hy, six2, hk2⟩ := hin.kid (i := 1) (by simp)
 obtain ⟨bl3, o3, k2, b2, m2, s2, t2, a2, len2, cap2, kid2, hbl3, hz, six3, hk3⟩ := hin.kid (i := 2) (by simp)
 obtain ⟨rfl, rfl⟩ : bl = bl2 ∧ o = o2 := by simpa using hbl
 obtain ⟨rfl, rfl⟩ : bl = bl3 ∧ o = o3 := by simpa using hbl3
 obtain rfl : x = .mk k b m s t a1 len cap1 kid := by simpa using hx
 obtain rfl : y = .mk k' b' m' s' t' a' len' cap' kid' := by simpa using hy
 obtain rfl : z = .mk k2 b2 m2 s2 t2 a2 len2 cap2 kid2 := by simpa using hz
 rw [show o + 0 * 6 = o by omega] at six
 rw [show o + 1 * 6 = o + 6 by omega] at six2
 rw [show o + 2 * 6 = o + 12 by omega] at six3
 exact ⟨bl, o, k, b, m, s, t, a1, len, cap1, kid, k', b', m', s', t', a', len', cap', kid', k2, b2, m2, s2, t2, a2, len2, cap2, kid2, rfl, rfl, six, six2, six3, hk, hk2, hk3⟩
set_option maxRecDepth 10000 in
theorem reval_11 (b : Bool) (m s : Int) (t : ByteArray) (lo hi : Bool) (a : Option Addr) (len cap : Nat) (a9 : Option Addr) (c9 n9 : Nat) (w : World) (N : Nat) (k : Int) (hkc : k = 11) (hl : len = 3) (kid : Nat → XT) (ih : ∀ i, REvOf (kid i)) (es : List (ByteArray × VT)) (hn9 : n9 = es.length) (hin : (XT.mk k b m s t lo hi a len cap kid).In (fun _ => True) w) (hfit : fitZ (XT.mk k b m s t lo hi a len cap kid)) (henv : EnvIn w a9 es) (hel : es.length ≤ maxLen) (hlo : EnvLo N es) (hN : N ≤ w.heap.size) :
  Calls Tryz.prog 12 #[.agg #[.int .i64 k, .bool b, .int .i64 m, .int .i64 s, .string t, .bool lo, .bool hi, .slice a len cap], .slice a9 n9 c9] w fun e w' => REvRes N w.heap.size (if (kidsT (fun i => evT (envT es) (kid i)) len).2 = 0 then joinT k t lo hi (kidsT (fun i => evT (envT es) (kid i)) len).1 else (nilV, (kidsT (fun i => evT (envT es) (kid i)) len).2)) e w' ∧ Below w.heap.size w w' := by
 have BT := boxesX w k b m s t lo hi a len cap
 subst hn9
 have h8 : (k == 8) = false := by rw [hkc]; rfl
 have h6 : (k == 6) = false := by rw [hkc]; rfl
 have h7 : (k == 7) = false := by rw [hkc]; rfl
 have h9 : (k == 9) = false := by rw [hkc]; rfl
 have h10 : (k == 10) = false := by rw [hkc]; rfl
 have e1 : (kidsN k == -2) = false := by rw [hkc]; rfl
 have e4 : (kidsN k == 0) = false := by rw [hkc]; rfl
 have e2 : (kidsN k != (len : Int)) = false := by rw [hkc, hl]; rfl
 have e3 : (0 : Int) < kidsN k := by rw [hkc]; decide
 have HL := hide hl
 clear hl
 have HKC := hide hkc
 obtain ⟨hft, hfl, hfk⟩ := hfit
 have HFK := hide hfk
 have HEL := hide hel
 have HLO := hide hlo
 have HIH := hide ih
 generalize hRES : (if (kidsT (fun i => evT (envT es) (kid i)) len).2 = 0 then joinT k t lo hi (kidsT (fun i => evT (envT es) (kid i)) len).1 else (nilV, (kidsT (fun i => evT (envT es) (kid i)) len).2)) = RES
 generalize hf : (fun i => evT (envT es) (kid i)) = f at hRES
 have HRES := hide hRES
 have HF := hide (fun i => (congrFun hf i).symm)
 have HOKF := hide (show ∀ i, (f i).1.okB 2 = true from fun i => by rw [← hf]; exact ok_ev (env_ok (fun e he => (hlo e he).1)) (kid i))
 clear hRES hf hkc hel hlo ih hfk
 go_enter Tryz.func12, Tryz.ntmps12
 go_wp2_with fail
 generalize ((w.alloc (Obj.cells #[.int .i64 k, .bool b, .int .i64 m, .int .i64 s, .string t, .bool lo, .bool hi, .slice a len cap] 26)).alloc (Obj.cells #[.int .i64 0, .bool false, .int .i64 0, .int .i64 0, .string ⟨#[]⟩, .slice none 0 0] 32)) = V at *
 obtain ⟨X0, O0, B0, z0⟩ := BT
 obtain ⟨x0, x1, x2, x3, x4, x5, x6, x7, x8⟩ := id X0
 simp only [Nat.zero_add] at x1 x2 x3 x4 x5 x6 x7 x8
 refine (rkids_any _ _).mono ?_
 rintro e w0 ⟨rfl, rfl⟩
 generalize kidsN k = q at *
 go_wp2_with fail
 clear x0 x1 x2 x3 x4 x5 x6 x7 x8
 generalize hB : w.heap.size + 2 = B at *
 go_loopw [7, 8] (fun lv i wr => ∃ (j : Nat) (l : List VT), j ≤ len ∧ i = .int .i64 j ∧ Hid (l.length = j) ∧ Hid (Vals N B wr lv l) ∧ Hid (kidsT f j = (l.map VT.bare, 0)) ∧ XT.Eight wr w.heap.size 0 k b m s t lo hi a len cap ∧ Own wr (w.heap.size + 1) ∧ Below w.heap.size w wr ∧ B ≤ wr.heap.size) (fun _ i _ => len - (intOf i).toNat)
 case atStart => exact ⟨0, [], Nat.zero_le _, rfl, hide rfl, hide (Vals.nil _ _ _), hide rfl, X0, O0, B0, by omega⟩
 case round =>
  clear X0 O0 B0
  obtain ⟨j, l, hj, rfl, HLJ, HV, HK, X1, O1, B1, z1⟩ := hrel
  obtain ⟨ka, kc, rfl⟩ := (unhide HV).form
  obtain ⟨x0, x1, x2, x3, x4, x5, x6, x7, x8⟩ := id X1
  simp only [Nat.zero_add] at x1 x2 x3 x4 x5 x6 x7 x8
  by_cases hlt : j < len
  ·obtain ⟨bl, o, k', b', m', s', t', lo', hi', a', len', cap', kid', rfl, hx, eight, hk⟩ := hin.kid hlt
   obtain ⟨q0, q1, q2, q3, q4, q5, q6, q7, q8⟩ := eight.below B1
   have EV := unhide HIH j N es a9 c9 wr
   have HFJ := unhide HF j
   have HFKJ := unhide HFK j hlt
   have HOJ := hide (unhide HOKF j)
   rw [hx] at EV HFJ HFKJ
   have EVH := hide (EV (hk.below B1) HFKJ (henv.below B1) (unhide HEL) (unhide HLO) (Nat.le_trans hN B1.size))
   rw [← HFJ] at EVH
   have HFS := hide (show kidsT f (j + 1) = if (kidsT f j).2 = 0 then (if (f j).2 = 0 then ((kidsT f j).1 ++ [(f j).1], 0) else ([], (f j).2)) else ([], (kidsT f j).2) from rfl)
   have HST := hide (fun (E : Int) (he : E ≠ 0) (h : kidsT f (j + 1) = ([], E)) => kids_stop (f := f) (n := len) (j := j + 1) (by omega) he h)
   have jl2 : (j : Int) < (len : Int) := by omega
   clear EV HFJ HFKJ hx hk eight HIH HF
   generalize hfj : f j = FJ at *
   obtain ⟨RX, E⟩ := FJ
   clear hfj
   go_wp2_with fail
   refine (unhide EVH).mono ?_
   rintro e w2 ⟨⟨T, rfl, hT, hTl, hTb⟩, k2⟩
   obtain ⟨kq, bq, mq, sq, tq, aq, lq, cq, kidq, rfl⟩ := hT.form
   dsimp only [VT.val] at *
   have HV2 := hide ((unhide HV).below k2)
   have X2 := XT.Eight.below X1 k2
   have O2 := O1.below k2
   have B2 := bstep B1 k2
   have z2 := k2.size
   have hll : l.length ≤ 1000 := by have := unhide HLJ; omega
   clear EVH X1 O1 B1 k2 q0 q1 q2 q3 q4 q5 q6 q7 q8 x0 x1 x2 x3 x4 x5 x6 x7 x8
   by_cases hE : E = 0
   ·subst hE
    have HT := hide hT
    have HTL := hide (show (VT.mk kq bq mq sq tq aq lq cq kidq).Lies (fun h => (h < N ∨ B ≤ h) ∧ some h ≠ (Value.slice ka l.length kc).ownBlock) from hTl.weak (fun g hg => by
     refine ⟨by omega, fun e => ?_⟩
     have := (unhide HV).lt g e.symm
     omega))
    have HTB := hide hTb
    have hown : ∀ g, (Value.slice ka l.length kc).ownBlock = some g → B ≤ g := fun g hg => ((unhide HV).lt g hg).1
    have HOWN := hide hown
    clear hT hTl hTb HV hown
    obtain ⟨x0, x1, x2, x3, x4, x5, x6, x7, x8⟩ := id X2
    simp only [Nat.zero_add] at x1 x2 x3 x4 x5 x6 x7 x8
    go_wp2_with (at_builtin; go_must (refine wpList_v rfl _ _ rfl N B _ l rfl (((unhide HV2).alloc _).alloc _) (w2.heap.size + 1) (((unhide HT).below (below1 _ _)).below (below1 _ _)) (unhide HTL) rfl (six_at (by simp) _ _ _ _ _ _ _ _) (by omega) (by simp; omega) ?_); intro v' w4 V4 gr4)
    have hne1 : some w.heap.size ≠ (Value.slice ka l.length kc).ownBlock := fun e => by have := unhide HOWN _ e.symm; omega
    have hne2 : some (w.heap.size + 1) ≠ (Value.slice ka l.length kc).ownBlock := fun e => by have := unhide HOWN _ e.symm; omega
    have X4 := eight_grown (XT.Eight.below (XT.Eight.below X2 (below1 _ _)) (below1 _ _)) gr4 hne1
    have O4 := own_grown (Own.below (Own.below O2 (below1 _ _)) (below1 _ _)) gr4 hne2
    have B4 := ((B2.alloc (by omega) _).alloc (by simp; omega) _).grown gr4 (by simp; omega) (fun g hg => by have := unhide HOWN g hg; omega)
    have z4 := gr4.size
    simp at z4
    have V4' := hide V4
    clear gr4 V4
    go_roundw
    case rel =>
     refine ⟨j + 1, l ++ [_], by omega, by go_num, hide (by rw [List.length_append, unhide HLJ]; rfl), V4', hide ?_, X4, O4, B4, by omega⟩
     rw [unhide HFS, unhide HK, if_pos rfl, if_pos rfl, List.map_append, List.map_cons, List.map_nil, unhide HTB]
    case measure => simp [intOf]; omega
   ·have HE2 := hide (show RES = (nilV, E) by
     have h1 : kidsT f (j + 1) = ([], E) := by rw [unhide HFS, unhide HK, if_pos rfl, if_neg hE]
     rw [← unhide HRES, unhide HST E hE h1, if_neg hE])
    have e5 : (E != 0) = true := by simpa using hE
    have hne : ¬ w.heap.size + 1 = w2.heap.size := by omega
    clear hE hT hTl hTb HV HV2
    obtain ⟨u0, t0, t1, t2, t3, t4, t5, f0, f1, f2, f3, f4, f5⟩ := Own.fl O2
    go_wp2_with fail
    refine bodyPost_ret (v := .tuple #[lfv 0 false 0 0 ⟨#[]⟩, .int .i64 E]) (by simp [results, Tryz.results12, go_sem, lfv, t0, t1, t2, t3, t4, t5, u0, hne]) rfl ⟨?_, zBL⟩
    exact lfr_val 0 false 0 0 ⟨#[]⟩ E (unhide HE2) (by rw [unhide HE2]; exact ok_nil) _ _ _
  ·obtain rfl : j = len := by omega
   obtain ⟨-, hrow, hlies⟩ := (unhide HV).row
   have HOKL := hide (show ∀ v ∈ l, v.okB 2 = true from fun v hv => by
    have h := kids_ok (f := f) (n := j) (fun i _ => unhide HOKF i) v.bare (by rw [unhide HK]; exact List.mem_map_of_mem hv)
    rw [VT.okB_bare] at h; exact h)
   have HR := hide (show RES = joinT k t lo hi (l.map VT.bare) by rw [← unhide HRES, unhide HK, if_pos rfl])
   have hll : l.length ≤ 1000 := by have := unhide HLJ; omega
   have hj0 : ¬ (j : Int) < (j : Int) := by omega
   clear HV HK HRES HIH HF HFK HOKF hlt
   obtain ⟨bl, o, ky, by', my, sy, ty, ay, ly, cy, kidy, kz, bz, mz, sz, tz, az, lz, cz, kidz, kv, bv, mv, sv, tv, av, nv, cv, kidv, rfl, rfl, six, six', six'', hy, hz, hv⟩ := row_three hrow ((unhide HLJ).trans (unhide HL))
   have oy := unhide HOKL _ (List.mem_cons_self (a := VT.mk ky by' my sy ty ay ly cy kidy) (l := _))
   have oz := unhide HOKL _ (List.mem_cons_of_mem _ (List.mem_cons_self (a := VT.mk kz bz mz sz tz az lz cz kidz) (l := _)))
   have ov := unhide HOKL _ (List.mem_cons_of_mem _ (List.mem_cons_of_mem _ (List.mem_cons_self (a := VT.mk kv bv mv sv tv av nv cv kidv) (l := _))))
   have C := hide (fun w h h' h'' => rbetween_any lo hi (VT.mk ky by' my sy ty ay ly cy kidy) (VT.mk kz bz mz sz tz az lz cz kidz) (VT.mk kv bv mv sv tv av nv cv kidv) w oy oz ov h h' h'')
   have HR2 := hide (show RES = (inT lo hi (VT.mk ky by' my sy ty ay ly cy kidy) (VT.mk kz bz mz sz tz az lz cz kidz) (VT.mk kv bv mv sv tv av nv cv kidv), 0) by rw [unhide HR, unhide HKC]; show (inT _ _ (VT.bare _) (VT.bare _) (VT.bare _), (0 : Int)) = _; rw [in_bare])
   have HOKB := hide (show (inT lo hi (VT.mk ky by' my sy ty ay ly cy kidy) (VT.mk kz bz mz sz tz az lz cz kidz) (VT.mk kv bv mv sv tv av nv cv kidv)).okB 2 = true from ok_and _ _)
   have LFB : LF (inT lo hi (VT.mk ky by' my sy ty ay ly cy kidy) (VT.mk kz bz mz sz tz az lz cz kidz) (VT.mk kv bv mv sv tv av nv cv kidv)) := ⟨_, _, _, _, _, rfl⟩
   generalize inT lo hi (VT.mk ky by' my sy ty ay ly cy kidy) (VT.mk kz bz mz sz tz az lz cz kidz) (VT.mk kv bv mv sv tv av nv cv kidv) = X at *
   obtain ⟨K, BB, M', SS, TT, hX⟩ := LFB
   subst hX
   have YI := hide hy
   have ZI := hide hz
   have VI := hide hv
   have hbl : bl < N ∨ B ≤ bl := by
    obtain ⟨⟨bl', o', he, hq⟩, -⟩ := hlies 0 (by simp)
    obtain ⟨rfl, rfl⟩ : bl = bl' ∧ o = o' := by simpa using he
    exact hq
   obtain ⟨u0, u1, u2, u3, u4, u5, u6⟩ := six
   obtain ⟨v0, v1, v2, v3, v4, v5, v6⟩ := six'
   obtain ⟨r0, r1, r2, r3, r4, r5, r6⟩ := six''
   clear hrow hlies oy oz ov hy hz hv
   go_upto_region 27 with fail
   obtain ⟨S, HS⟩ : ∃ S : World → Prop, S = fun w' => Below w.heap.size w w' ∧ w'.cell? ⟨w.heap.size, 5, none⟩ = some (.bool lo) ∧ w'.cell? ⟨w.heap.size, 6, none⟩ = some (.bool hi) ∧ w'.cell? ⟨bl, o, none⟩ = some (.int .i64 ky) ∧ w'.cell? ⟨bl, o + 1, none⟩ = some (.bool by') ∧ w'.cell? ⟨bl, o + 2, none⟩ = some (.int .i64 my) ∧ w'.cell? ⟨bl, o + 3, none⟩ = some (.int .i64 sy) ∧ w'.cell? ⟨bl, o + 4, none⟩ = some (.string ty) ∧ w'.cell? ⟨bl, o + 5, none⟩ = some (.slice ay ly cy) ∧ w'.cell? ⟨bl, o + 6, none⟩ = some (.int .i64 kz) ∧ w'.cell? ⟨bl, o + 6 + 1, none⟩ = some (.bool bz) ∧ w'.cell? ⟨bl, o + 6 + 2, none⟩ = some (.int .i64 mz) ∧ w'.cell? ⟨bl, o + 6 + 3, none⟩ = some (.int .i64 sz) ∧ w'.cell? ⟨bl, o + 6 + 4, none⟩ = some (.string tz) ∧ w'.cell? ⟨bl, o + 6 + 5, none⟩ = some (.slice az lz cz) ∧ w'.cell? ⟨bl, o + 12, none⟩ = some (.int .i64 kv) ∧ w'.cell? ⟨bl, o + 12 + 1, none⟩ = some (.bool bv) ∧ w'.cell? ⟨bl, o + 12 + 2, none⟩ = some (.int .i64 mv) ∧ w'.cell? ⟨bl, o + 12 + 3, none⟩ = some (.int .i64 sv) ∧ w'.cell? ⟨bl, o + 12 + 4, none⟩ = some (.string tv) ∧ w'.cell? ⟨bl, o + 12 + 5, none⟩ = some (.slice av nv cv) := ⟨_, rfl⟩
   have HSS := hide HS
   have S0V : S wr := by rw [HS]; exact ⟨B1, x6, x7, u1, u2, u3, u4, u5, u6, v1, v2, v3, v4, v5, v6, r1, r2, r3, r4, r5, r6⟩
   have S0V := hide S0V
   have SB : Hid (∀ x, S x → Below w.heap.size w x) := hide (by rw [HS]; exact fun x h => h.1)
   have SKC : Hid (∀ x w' : World, S x → Below x.heap.size x w' → S w') := hide (by
    rw [HS]; rintro x w' ⟨h0, h1, h2, h3, h4, h5, h6, h7, h8, h9, h10, h11, h12, h13, h14, h15, h16, h17, h18, h19, h20⟩ kk
    exact ⟨bstep h0 kk, kcl kk h1, kcl kk h2, kcl kk h3, kcl kk h4, kcl kk h5, kcl kk h6, kcl kk h7, kcl kk h8, kcl kk h9, kcl kk h10, kcl kk h11, kcl kk h12, kcl kk h13, kcl kk h14, kcl kk h15, kcl kk h16, kcl kk h17, kcl kk h18, kcl kk h19, kcl kk h20⟩)
   have SST : Hid (∀ (x : World) (p0 p1 p2 p3 p4 p5 : Value), S x → S ((((((x.setCell ⟨w.heap.size + 1, 0, none⟩ p0).setCell ⟨w.heap.size + 1, 1, none⟩ p1).setCell ⟨w.heap.size + 1, 2, none⟩ p2).setCell ⟨w.heap.size + 1, 3, none⟩ p3).setCell ⟨w.heap.size + 1, 4, none⟩ p4).setCell ⟨w.heap.size + 1, 5, none⟩ p5)) := hide (by
    rw [HS]; rintro x p0 p1 p2 p3 p4 p5 ⟨h0, h1, h2, h3, h4, h5, h6, h7, h8, h9, h10, h11, h12, h13, h14, h15, h16, h17, h18, h19, h20⟩
    exact ⟨set6 h0 (by omega) _ _ _ _ _ _, (put6_cell (by omega) _ _ _ _ _ _).trans h1, (put6_cell (by omega) _ _ _ _ _ _).trans h2, (put6_cell (by omega) _ _ _ _ _ _).trans h3, (put6_cell (by omega) _ _ _ _ _ _).trans h4, (put6_cell (by omega) _ _ _ _ _ _).trans h5, (put6_cell (by omega) _ _ _ _ _ _).trans h6, (put6_cell (by omega) _ _ _ _ _ _).trans h7, (put6_cell (by omega) _ _ _ _ _ _).trans h8, (put6_cell (by omega) _ _ _ _ _ _).trans h9, (put6_cell (by omega) _ _ _ _ _ _).trans h10, (put6_cell (by omega) _ _ _ _ _ _).trans h11, (put6_cell (by omega) _ _ _ _ _ _).trans h12, (put6_cell (by omega) _ _ _ _ _ _).trans h13, (put6_cell (by omega) _ _ _ _ _ _).trans h14, (put6_cell (by omega) _ _ _ _ _ _).trans h15, (put6_cell (by omega) _ _ _ _ _ _).trans h16, (put6_cell (by omega) _ _ _ _ _ _).trans h17, (put6_cell (by omega) _ _ _ _ _ _).trans h18, (put6_cell (by omega) _ _ _ _ _ _).trans h19, (put6_cell (by omega) _ _ _ _ _ _).trans h20⟩)
   clear HS
   clear u0 u1 u2 u3 u4 u5 u6 v0 v1 v2 v3 v4 v5 v6 r0 r1 r2 r3 r4 r5 r6 x0 x1 x2 x3 x4 x5 x6 x7 x8 X1
   refine wp_region_noPanic ?_
   refine wp_region_held_drew (S := S) (by kernel_rfl) (unhide SKC _ _ (unhide S0V) (Below.refl _ _).drew) (fun hHeld => ?_)
   have jda : Below wr.heap.size wr wr.drew := (Below.refl _ _).drew
   have YI0a := hide ((unhide YI).below jda)
   have ZI0a := hide ((unhide ZI).below jda)
   have VI0a := hide ((unhide VI).below jda)
   have o0ba := Own.below O1 jda
   clear jda
   generalize wr.drew = u0a at *
   refine takeC 0 (some 120) ?_
   refine takeC 1 (some 121) ?_
   refine takeC 2 (some 122) ?_
   refine takeC 3 (some 123) ?_
   refine takeC 4 (some 124) ?_
   refine takeC 5 (some 125) ?_
   refine takeC 6 (some 126) ?_
   refine takeC 7 (some 127) ?_
   refine takeC 8 (some 128) ?_
   refine takeC 9 (some 129) ?_
   refine takeC 10 (some 130) ?_
   refine takeC 11 (some 131) ?_
   refine takeC 12 (some 132) ?_
   refine wpAnyH_ready (rs := [13]) (by kernel_rfl) (by simp) ?_
   refine AllReadyH.cons rfl (fun K0 hK0 => ?_) AllReadyH.nil
   go_simp
   refine (unhide C _ (unhide YI0a) (unhide ZI0a) (unhide VI0a)).mono ?_
   rintro e u1a ⟨rfl, j1a⟩
   unfold leaf
   dsimp only [VT.val]
   go_wp2_with fail
   refine hK0.out _ _ (unhide SKC _ _ hHeld j1a) (fun hHeld1 => ?_)
   clear hK0 K0
   have o1ba := o0ba.below j1a
   have YI1a := hide ((unhide YI0a).below j1a)
   have ZI1a := hide ((unhide ZI0a).below j1a)
   have VI1a := hide ((unhide VI0a).below j1a)
   clear j1a
   clear hHeld o0ba YI0a ZI0a VI0a
   have hHeld := hHeld1
   clear hHeld1
   try simp only [Act.put, List.setIfInBounds_toArray, List.set_cons_zero, List.set_cons_succ]
   refine wpAnyH_ready (rs := [14]) (by kernel_rfl) (by simp) ?_
   refine AllReadyH.cons rfl (fun K0 hK0 => ?_) AllReadyH.nil
   obtain ⟨⟨-, e0, e1, e2, e3, e4, e5⟩, f0, f1, f2, f3, f4, f5⟩ := id o1ba
   simp only [Nat.zero_add] at e0 e1 e2 e3 e4 e5
   go_simp
   clear e0 e1 e2 e3 e4 e5 f0 f1 f2 f3 f4 f5
   refine hK0.out _ _ (unhide SST _ _ _ _ _ _ _ hHeld) (fun hHeld1 => ?_)
   clear hK0 K0
   have s2ba := Own.put o1ba K BB M' SS TT none 0 0
   generalize ((((((u1a.setCell ⟨w.heap.size + 1, 0, none⟩ (.int .i64 K)).setCell ⟨w.heap.size + 1, 1, none⟩ (.bool BB)).setCell ⟨w.heap.size + 1, 2, none⟩ (.int .i64 M')).setCell ⟨w.heap.size + 1, 3, none⟩ (.int .i64 SS)).setCell ⟨w.heap.size + 1, 4, none⟩ (.string TT)).setCell ⟨w.heap.size + 1, 5, none⟩ (.slice none 0 0)) = u2a at *
   clear hHeld o1ba YI1a ZI1a VI1a
   have hHeld := hHeld1
   clear hHeld1
   try simp only [Act.put, List.setIfInBounds_toArray, List.set_cons_zero, List.set_cons_succ]
   refine takeC 15 (some 5) ?_
   refine wpAnyH_done (by kernel_rfl) ?_ _
   refine NoPanic.normal ?_
   have BQ := unhide SB _ hHeld
   clear hHeld
   obtain ⟨t9, t0, t1, t2, t3, t4, t5⟩ := s2ba
   simp only [Nat.zero_add] at t0 t1 t2 t3 t4 t5
   go_wp2_with fail
   exact bodyPost_ret (v := .tuple #[lfv K BB M' SS TT, .int .i64 0]) (by simp [results, Tryz.results12, go_sem, lfv, t0, t1, t2, t3, t4, t5]) rfl ⟨by rw [unhide HR2]; exact lfr_val K BB M' SS TT 0 rfl (unhide HOKB) _ _ _, BQ⟩
end
section
open VT (leaf mkV)
theorem sou_not (k : Int) (m s : Int) (t : ByteArray) (len : Nat) (h3 : k ≠ 3) (h4 : k ≠ 4) (hs : souB k m s t len = false) : kidsN k = -2 ∨ (0 < kidsN k ∧ kidsN k ≠ (len : Int)) := by
 unfold souB at hs
 by_cases c0 : k = 1 ∨ k = 2 ∨ k = 5 ∨ k = 9 ∨ k = 10
 ·rw [if_pos c0] at hs; cases hs
 rw [if_neg c0, if_neg h3, if_neg h4] at hs
 by_cases c6 : k = 6
 ·subst c6
  right
  refine ⟨by decide, fun e => ?_⟩
  have e2 : (2 : Int) = (len : Int) := e
  rw [if_pos rfl] at hs
  simp only [decide_eq_false_iff_not] at hs
  omega
 rw [if_neg c6] at hs
 by_cases c7 : k = 7
 ·subst c7
  right
  refine ⟨by decide, fun e => ?_⟩
  have e2 : (1 : Int) = (len : Int) := e
  rw [if_pos rfl] at hs
  simp only [decide_eq_false_iff_not] at hs
  omega
 rw [if_neg c7] at hs
 by_cases c8 : k = 8 ∨ k = 11
 ·rw [if_pos c8] at hs
  simp only [decide_eq_false_iff_not] at hs
  right
  rcases c8 with rfl | rfl
  ·refine ⟨by decide, fun e => ?_⟩
   have e2 : (3 : Int) = (len : Int) := e
   omega
  ·refine ⟨by decide, fun e => ?_⟩
   have e2 : (3 : Int) = (len : Int) := e
   omega
 ·left
  unfold kidsN
  rw [if_neg (by omega), if_neg c7, if_neg c6, if_neg (by omega), if_neg (by omega)]
theorem reval_any (x : XT) : REvOf x := by
 induction x with
 | none => intro N es a9 c9 w h; exact absurd h (by simp [XT.In])
 | mk k b m s t lo hi a len cap kid ih =>
  intro N es a9 c9 w hin hfit henv hel hlo hN
  show Calls Tryz.prog 12 #[.agg #[.int .i64 k, .bool b, .int .i64 m, .int .i64 s, .string t, .bool lo, .bool hi, .slice a len cap], .slice a9 es.length c9] w _
  have ht : t.size ≤ maxLen := by have := hfit.1; unfold maxLen; omega
  have LF5 : k = 1 ∨ k = 2 ∨ k = 3 ∨ k = 4 ∨ k = 5 → kidsN k = 0 ∧ (k == 8) = false := by rintro (h | h | h | h | h) <;> subst h <;> exact ⟨rfl, rfl⟩
  by_cases h1 : k = 1
  ·subst h1
   have e : evT (envT es) (.mk 1 b m s t lo hi a len cap kid) = (nilV, 0) := rfl
   rw [e]
   exact reval_leaf b m s t lo hi a len cap a9 c9 es.length w N 1 rfl rfl _ hN (hide (fun w' kk => rleaf_1 b m s t lo hi a len cap a9 c9 es.length w' N))
  by_cases h2 : k = 2
  ·subst h2
   have e : evT (envT es) (.mk 2 b m s t lo hi a len cap kid) = (booV b, 0) := rfl
   rw [e]
   exact reval_leaf b m s t lo hi a len cap a9 c9 es.length w N 2 rfl rfl _ hN (hide (fun w' kk => rleaf_2 b m s t lo hi a len cap a9 c9 es.length w' N))
  by_cases h3 : k = 3
  ·subst h3
   have e : evT (envT es) (.mk 3 b m s t lo hi a len cap kid) = (if isB m s = false then (nilV, 1) else (numV m s, 0)) := rfl
   rw [e]
   exact reval_leaf b m s t lo hi a len cap a9 c9 es.length w N 3 rfl rfl _ hN (hide (fun w' kk => rleaf_3 b m s t lo hi a len cap a9 c9 es.length w' N))
  by_cases h4 : k = 4
  ·subst h4
   have e : evT (envT es) (.mk 4 b m s t lo hi a len cap kid) = (if textB t = false then (nilV, 1) else (texV t, 0)) := rfl
   rw [e]
   exact reval_leaf b m s t lo hi a len cap a9 c9 es.length w N 4 rfl rfl _ hN (hide (fun w' kk => rleaf_4 b m s t lo hi a len cap a9 c9 es.length w' N ht))
  by_cases h5 : k = 5
  ·subst h5
   have e : evT (envT es) (.mk 5 b m s t lo hi a len cap kid) = (lookT (envT es) (XT.tl t), 0) := rfl
   rw [e]
   exact reval_leaf b m s t lo hi a len cap a9 c9 es.length w N 5 rfl rfl _ hN (hide (fun w' kk => rleaf_5 b m s t lo hi a len cap a9 c9 es.length w' N es rfl (henv.below kk) hel hlo (Nat.le_trans hN kk.size)))
  unfold evT
  cases hs : souB k m s t len
  ·rw [if_pos rfl]
   exact reval_no b m s t lo hi a len cap a9 c9 es.length w N k (sou_not k m s t len h3 h4 hs)
  rw [if_neg (by simp), if_neg h1, if_neg h2, if_neg h3, if_neg h4, if_neg h5]
  by_cases h8 : k = 8
  ·subst h8
   rw [if_pos rfl]
   have hl : len = 3 := by simpa [souB] using hs
   subst hl
   exact reval_if b m s t lo hi a 3 cap a9 c9 es.length w N 8 rfl rfl rfl _ hN (hide (fun w' kk => rchoose_any b m s t lo hi a cap kid ih N es a9 c9 w' (hin.below kk) hfit (henv.below kk) hel hlo (Nat.le_trans hN kk.size)))
  rw [if_neg h8]
  by_cases h6 : k = 6
  ·have hl : len = 2 := by subst h6; simpa [souB] using hs
   exact reval_6 b m s t lo hi a len cap a9 c9 es.length w N k h6 hl kid ih es rfl hin hfit henv hel hlo hN
  by_cases h7 : k = 7
  ·have hl : len = 1 := by subst h7; simpa [souB] using hs
   exact reval_7 b m s t lo hi a len cap a9 c9 es.length w N k h7 hl kid ih es rfl hin hfit henv hel hlo hN
  by_cases h9 : k = 9
  ·exact reval_9 b m s t lo hi a len cap a9 c9 es.length w N k h9 kid ih es rfl hin hfit henv hel hlo hN
  by_cases h10 : k = 10
  ·exact reval_10 b m s t lo hi a len cap a9 c9 es.length w N k h10 kid ih es rfl hin hfit henv hel hlo hN
  by_cases h11 : k = 11
  ·have hl : len = 3 := by subst h11; simpa [souB] using hs
   exact reval_11 b m s t lo hi a len cap a9 c9 es.length w N k h11 hl kid ih es rfl hin hfit henv hel hlo hN
  ·exfalso
   unfold souB at hs
   rw [if_neg (by omega), if_neg h3, if_neg h4, if_neg h6, if_neg h7, if_neg (by omega)] at hs
   cases hs
end
section
def MayRes (es : List (ByteArray × VT)) (e : Ending) : Prop := ∃ r, e = .returned (.bool r) ∧ (r = true → ∀ e ∈ es, e.2.okB 2 = true)
theorem emay_any (a9 : Option Addr) (c9 : Nat) (es : List (ByteArray × VT)) (w : World) (henv : EnvIn w a9 es) (hlen : es.length ≤ maxLen) (hnm : ∀ e ∈ es, e.1.size ≤ maxLen) :
  Calls Tryz.prog 10 #[.slice a9 es.length c9] w fun e w' => MayRes es e ∧ Below w.heap.size w w' := by
 have hlm := hlen
 unfold maxLen at hlm
 have HNM := hide hnm
 clear hlen hnm
 by_cases h20 : 20 < es.length
 ·have h20' : 20 < (es.length : Int) := by omega
  go_enter Tryz.func10, Tryz.ntmps10
  go_wp2_with fail
  go_ret
  exact ⟨⟨_, rfl, fun h => by cases h⟩, Below.refl _ _⟩
 have h20' : ¬ 20 < (es.length : Int) := by omega
 go_enter Tryz.func10, Tryz.ntmps10
 go_wp2_with fail
 go_loopw [3] (fun i wr => ∃ (j : Nat), j ≤ es.length ∧ i = .int .i64 j ∧ Hid (∀ i (h : i < es.length), i < j → es[i].2.okB 2 = true) ∧ Below w.heap.size w wr) (fun i _ => es.length - (intOf i).toNat)
 case atStart => exact ⟨0, Nat.zero_le _, rfl, hide (fun i _ hi => absurd hi (Nat.not_lt_zero _)), Below.refl _ _⟩
 case round =>
  obtain ⟨j, hj, rfl, HR, bel⟩ := hrel
  by_cases hlt : j < es.length
  ·obtain ⟨bl, o, n, k', b', m', s', t', a', len', cap', kid', rfl, hx, sev, hk⟩ := henv.at hlt
   have hns : n.size ≤ maxLen := by have := unhide HNM es[j] (List.getElem_mem hlt); rw [hx] at this; exact this
   have hll : len' ≤ maxLen := by have := hk.1; omega
   unfold maxLen at hns hll
   obtain ⟨s0, s1, s2, s3, s4, s5, s6, s7⟩ := sev.below bel
   have RI := hide (rIs_any (VT.mk k' b' m' s' t' a' len' cap' kid') wr (hk.below bel))
   have HX := hide hx
   clear sev hk hx henv
   by_cases g1 : 50 < (n.size : Int)
   ·go_wp2_with fail
    go_ret
    exact ⟨⟨_, rfl, fun h => by cases h⟩, bel⟩
   by_cases g2 : 20 < (len' : Int)
   ·go_wp2_with fail
    go_ret
    exact ⟨⟨_, rfl, fun h => by cases h⟩, bel⟩
   cases hok : (VT.mk k' b' m' s' t' a' len' cap' kid').okB 2
   ·rw [hok] at RI
    clear hok
    go_wp2_with fail
    refine (unhide RI).mono ?_
    rintro e w2 ⟨rfl, k2⟩
    go_wp2_with fail
    go_ret
    exact ⟨⟨_, rfl, fun h => by cases h⟩, bstep bel k2⟩
   ·rw [hok] at RI
    have HK := hide hok
    clear hok
    go_wp2_with fail
    refine (unhide RI).mono ?_
    rintro e w2 ⟨rfl, k2⟩
    go_wp2_with fail
    go_roundw
    case rel =>
     refine ⟨j + 1, by omega, by go_num, hide (fun i h hi => ?_), bstep bel k2⟩
     by_cases hij : i = j
     ·subst hij; rw [unhide HX]; exact unhide HK
     ·exact unhide HR i h (by omega)
    case measure => simp [intOf]; omega
  ·have HR2 := hide (show ∀ e ∈ es, e.2.okB 2 = true from fun e he => by
    obtain ⟨i, hi, rfl⟩ := List.getElem_of_mem he
    exact unhide HR i hi (by omega))
   clear HR
   go_wp2_with fail
   go_ret
   exact ⟨⟨_, rfl, fun _ => unhide HR2⟩, bel⟩
end
end Go.Proofs.YtfdimdjmnfdecaaGreat

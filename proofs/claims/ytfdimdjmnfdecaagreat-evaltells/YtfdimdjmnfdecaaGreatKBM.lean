/- REk6 REk7 REk9 REk10: laid together. -/
import Derived.Test.YtfdimdjmnfdecaaGreatKBL
set_option linter.unusedVariables false
set_option linter.unusedSimpArgs false
set_option maxHeartbeats 8000000
namespace Go.Proofs.YtfdimdjmnfdecaaGreat
open Go.RowKit
section
open VT (leaf mkV)
set_option maxRecDepth 10000 in
theorem reval_6 (b : Bool) (m s : Int) (t : ByteArray) (lo hi : Bool) (a : Option Addr) (len cap : Nat) (a9 : Option Addr) (c9 n9 : Nat) (w : World) (N : Nat) (k : Int) (hkc : k = 6) (hl : len = 2) (kid : Nat → XT) (ih : ∀ i, REvOf (kid i)) (es : List (ByteArray × VT)) (hn9 : n9 = es.length) (hin : (XT.mk k b m s t lo hi a len cap kid).In (fun _ => True) w) (hfit : fitZ (XT.mk k b m s t lo hi a len cap kid)) (henv : EnvIn w a9 es) (hel : es.length ≤ maxLen) (hlo : EnvLo N es) (hN : N ≤ w.heap.size) :
  Calls Tryz.prog 12 #[.agg #[.int .i64 k, .bool b, .int .i64 m, .int .i64 s, .string t, .bool lo, .bool hi, .slice a len cap], .slice a9 n9 c9] w fun e w' => REvRes N w.heap.size (if (kidsT (fun i => evT (envT es) (kid i)) len).2 = 0 then joinT k t lo hi (kidsT (fun i => evT (envT es) (kid i)) len).1 else (nilV, (kidsT (fun i => evT (envT es) (kid i)) len).2)) e w' ∧ Below w.heap.size w w' := by
 have BT := boxesX w k b m s t lo hi a len cap
 subst hn9
 have h8 : (k == 8) = false := by rw [hkc]; rfl
 have h6 : (k == 6) = true := by rw [hkc]; rfl
 have e1 : (kidsN k == -2) = false := by rw [hkc]; rfl
 have e4 : (kidsN k == 0) = false := by rw [hkc]; rfl
 have e2 : (kidsN k != (len : Int)) = false := by rw [hkc, hl]; rfl
 have e3 : (0 : Int) < kidsN k := by rw [hkc]; decide
 have HL := hide hl
 clear hl
 have HKC := hide hkc
 obtain ⟨hft, hfl, hfk⟩ := hfit
 have HFK := hide hfk
 have HEL := hide hel
 have HLO := hide hlo
 have HIH := hide ih
 generalize hRES : (if (kidsT (fun i => evT (envT es) (kid i)) len).2 = 0 then joinT k t lo hi (kidsT (fun i => evT (envT es) (kid i)) len).1 else (nilV, (kidsT (fun i => evT (envT es) (kid i)) len).2)) = RES
 generalize hf : (fun i => evT (envT es) (kid i)) = f at hRES
 have HRES := hide hRES
 have HF := hide (fun i => (congrFun hf i).symm)
 have HOKF := hide (show ∀ i, (f i).1.okB 2 = true from fun i => by rw [← hf]; exact ok_ev (env_ok (fun e he => (hlo e he).1)) (kid i))
 clear hRES hf hkc hel hlo ih hfk
 go_enter Tryz.func12, Tryz.ntmps12
 go_wp2_with fail
 generalize ((w.alloc (Obj.cells #[.int .i64 k, .bool b, .int .i64 m, .int .i64 s, .string t, .bool lo, .bool hi, .slice a len cap] 26)).alloc (Obj.cells #[.int .i64 0, .bool false, .int .i64 0, .int .i64 0, .string ⟨#[]⟩, .slice none 0 0] 32)) = V at *
 obtain ⟨X0, O0, B0, z0⟩ := BT
 obtain ⟨x0, x1, x2, x3, x4, x5, x6, x7, x8⟩ := id X0
 simp only [Nat.zero_add] at x1 x2 x3 x4 x5 x6 x7 x8
 refine (rkids_any _ _).mono ?_
 rintro e w0 ⟨rfl, rfl⟩
 generalize kidsN k = q at *
 go_wp2_with fail
 clear x0 x1 x2 x3 x4 x5 x6 x7 x8
 generalize hB : w.heap.size + 2 = B at *
 go_loopw [7, 8] (fun lv i wr => ∃ (j : Nat) (l : List VT), j ≤ len ∧ i = .int .i64 j ∧ Hid (l.length = j) ∧ Hid (Vals N B wr lv l) ∧ Hid (kidsT f j = (l.map VT.bare, 0)) ∧ XT.Eight wr w.heap.size 0 k b m s t lo hi a len cap ∧ Own wr (w.heap.size + 1) ∧ Below w.heap.size w wr ∧ B ≤ wr.heap.size) (fun _ i _ => len - (intOf i).toNat)
 case atStart => exact ⟨0, [], Nat.zero_le _, rfl, hide rfl, hide (Vals.nil _ _ _), hide rfl, X0, O0, B0, by omega⟩
 case round =>
  clear X0 O0 B0
  obtain ⟨j, l, hj, rfl, HLJ, HV, HK, X1, O1, B1, z1⟩ := hrel
  obtain ⟨ka, kc, rfl⟩ := (unhide HV).form
  obtain ⟨x0, x1, x2, x3, x4, x5, x6, x7, x8⟩ := id X1
  simp only [Nat.zero_add] at x1 x2 x3 x4 x5 x6 x7 x8
  by_cases hlt : j < len
  ·obtain ⟨bl, o, k', b', m', s', t', lo', hi', a', len', cap', kid', rfl, hx, eight, hk⟩ := hin.kid hlt
   obtain ⟨q0, q1, q2, q3, q4, q5, q6, q7, q8⟩ := eight.below B1
   have EV := unhide HIH j N es a9 c9 wr
   have HFJ := unhide HF j
   have HFKJ := unhide HFK j hlt
   have HOJ := hide (unhide HOKF j)
   rw [hx] at EV HFJ HFKJ
   have EVH := hide (EV (hk.below B1) HFKJ (henv.below B1) (unhide HEL) (unhide HLO) (Nat.le_trans hN B1.size))
   rw [← HFJ] at EVH
   have HFS := hide (show kidsT f (j + 1) = if (kidsT f j).2 = 0 then (if (f j).2 = 0 then ((kidsT f j).1 ++ [(f j).1], 0) else ([], (f j).2)) else ([], (kidsT f j).2) from rfl)
   have HST := hide (fun (E : Int) (he : E ≠ 0) (h : kidsT f (j + 1) = ([], E)) => kids_stop (f := f) (n := len) (j := j + 1) (by omega) he h)
   have jl2 : (j : Int) < (len : Int) := by omega
   clear EV HFJ HFKJ hx hk eight HIH HF
   generalize hfj : f j = FJ at *
   obtain ⟨RX, E⟩ := FJ
   clear hfj
   go_wp2_with fail
   refine (unhide EVH).mono ?_
   rintro e w2 ⟨⟨T, rfl, hT, hTl, hTb⟩, k2⟩
   obtain ⟨kq, bq, mq, sq, tq, aq, lq, cq, kidq, rfl⟩ := hT.form
   dsimp only [VT.val] at *
   have HV2 := hide ((unhide HV).below k2)
   have X2 := XT.Eight.below X1 k2
   have O2 := O1.below k2
   have B2 := bstep B1 k2
   have z2 := k2.size
   have hll : l.length ≤ 1759218604390 := by have := unhide HLJ; omega
   clear EVH X1 O1 B1 k2 q0 q1 q2 q3 q4 q5 q6 q7 q8 x0 x1 x2 x3 x4 x5 x6 x7 x8
   by_cases hE : E = 0
   ·subst hE
    have HT := hide hT
    have HTL := hide (show (VT.mk kq bq mq sq tq aq lq cq kidq).Lies (fun h => (h < N ∨ B ≤ h) ∧ some h ≠ (Value.slice ka l.length kc).ownBlock) from hTl.weak (fun g hg => by
     refine ⟨by omega, fun e => ?_⟩
     have := (unhide HV).lt g e.symm
     omega))
    have HTB := hide hTb
    have hown : ∀ g, (Value.slice ka l.length kc).ownBlock = some g → B ≤ g := fun g hg => ((unhide HV).lt g hg).1
    have HOWN := hide hown
    clear hT hTl hTb HV hown
    obtain ⟨x0, x1, x2, x3, x4, x5, x6, x7, x8⟩ := id X2
    simp only [Nat.zero_add] at x1 x2 x3 x4 x5 x6 x7 x8
    go_wp2_with (at_builtin; go_must (refine wpList_v rfl _ _ rfl N B _ l rfl (((unhide HV2).alloc _).alloc _) (w2.heap.size + 1) (((unhide HT).below (below1 _ _)).below (below1 _ _)) (unhide HTL) rfl (six_at (by simp) _ _ _ _ _ _ _ _) (by omega) (by simp; omega) ?_); intro v' w4 V4 gr4)
    have hne1 : some w.heap.size ≠ (Value.slice ka l.length kc).ownBlock := fun e => by have := unhide HOWN _ e.symm; omega
    have hne2 : some (w.heap.size + 1) ≠ (Value.slice ka l.length kc).ownBlock := fun e => by have := unhide HOWN _ e.symm; omega
    have X4 := eight_grown (XT.Eight.below (XT.Eight.below X2 (below1 _ _)) (below1 _ _)) gr4 hne1
    have O4 := own_grown (Own.below (Own.below O2 (below1 _ _)) (below1 _ _)) gr4 hne2
    have B4 := ((B2.alloc (by omega) _).alloc (by simp; omega) _).grown gr4 (by simp; omega) (fun g hg => by have := unhide HOWN g hg; omega)
    have z4 := gr4.size
    simp at z4
    have V4' := hide V4
    clear gr4 V4
    go_roundw
    case rel =>
     refine ⟨j + 1, l ++ [_], by omega, by go_num, hide (by rw [List.length_append, unhide HLJ]; rfl), V4', hide ?_, X4, O4, B4, by omega⟩
     rw [unhide HFS, unhide HK, if_pos rfl, if_pos rfl, List.map_append, List.map_cons, List.map_nil, unhide HTB]
    case measure => simp [intOf]; omega
   ·have HE2 := hide (show RES = (nilV, E) by
     have h1 : kidsT f (j + 1) = ([], E) := by rw [unhide HFS, unhide HK, if_pos rfl, if_neg hE]
     rw [← unhide HRES, unhide HST E hE h1, if_neg hE])
    have e5 : (E != 0) = true := by simpa using hE
    have hne : ¬ w.heap.size + 1 = w2.heap.size := by omega
    clear hE hT hTl hTb HV HV2
    obtain ⟨u0, t0, t1, t2, t3, t4, t5, f0, f1, f2, f3, f4, f5⟩ := Own.fl O2
    go_wp2_with fail
    refine bodyPost_ret (v := .tuple #[lfv 0 false 0 0 ⟨#[]⟩, .int .i64 E]) zR12lt0t1t2t3t4t5u0hne rfl ⟨?_, zBL⟩
    exact lfr_val 0 false 0 0 ⟨#[]⟩ E (unhide HE2) (by rw [unhide HE2]; exact ok_nil) _ _ _
  ·obtain rfl : j = len := by omega
   obtain ⟨-, hrow, hlies⟩ := (unhide HV).row
   have HOKL := hide (show ∀ v ∈ l, v.okB 2 = true from fun v hv => by
    have h := kids_ok (f := f) (n := j) (fun i _ => unhide HOKF i) v.bare (by rw [unhide HK]; exact List.mem_map_of_mem hv)
    rw [VT.okB_bare] at h; exact h)
   have HR := hide (show RES = joinT k t lo hi (l.map VT.bare) by rw [← unhide HRES, unhide HK, if_pos rfl])
   have hll : l.length ≤ 1759218604390 := by have := unhide HLJ; omega
   have hj0 : ¬ (j : Int) < (j : Int) := by omega
   clear HV HK HRES HIH HF HFK HOKF hlt
   obtain ⟨bl, o, ky, by', my, sy, ty, ay, ly, cy, kidy, kz, bz, mz, sz, tz, az, lz, cz, kidz, rfl, rfl, six, six', hy, hz⟩ := row_two hrow ((unhide HLJ).trans (unhide HL))
   have oy := unhide HOKL _ (List.mem_cons_self (a := VT.mk ky by' my sy ty ay ly cy kidy) (l := _))
   have oz := unhide HOKL _ (List.mem_cons_of_mem _ (List.mem_cons_self (a := VT.mk kz bz mz sz tz az lz cz kidz) (l := _)))
   have C := hide (fun w h h' => rbin_any (XT.tl t) (VT.mk ky by' my sy ty ay ly cy kidy) (VT.mk kz bz mz sz tz az lz cz kidz) w oy oz h h')
   rw [ba_tl] at C
   have HR2 := hide (show RES = binT (XT.tl t) (VT.mk ky by' my sy ty ay ly cy kidy) (VT.mk kz bz mz sz tz az lz cz kidz) by rw [unhide HR, unhide HKC]; show binT _ (VT.bare _) (VT.bare _) = _; rw [bin_bare])
   have HOKB := hide (show (binT (XT.tl t) (VT.mk ky by' my sy ty ay ly cy kidy) (VT.mk kz bz mz sz tz az lz cz kidz)).1.okB 2 = true from ok_bin oy oz)
   have LFB : LF (binT (XT.tl t) (VT.mk ky by' my sy ty ay ly cy kidy) (VT.mk kz bz mz sz tz az lz cz kidz)).1 := lf_bin _ _ _
   generalize binT (XT.tl t) (VT.mk ky by' my sy ty ay ly cy kidy) (VT.mk kz bz mz sz tz az lz cz kidz) = X at *
   obtain ⟨XV, XE⟩ := X
   obtain ⟨K, BB, M', SS, TT, hX⟩ := LFB
   dsimp only at hX
   subst hX
   have YI := hide hy
   have ZI := hide hz
   have hbl : bl < N ∨ B ≤ bl := by
    obtain ⟨⟨bl', o', he, hq⟩, -⟩ := hlies 0 (by simp)
    obtain ⟨rfl, rfl⟩ : bl = bl' ∧ o = o' := by simpa using he
    exact hq
   obtain ⟨u0, u1, u2, u3, u4, u5, u6⟩ := six
   obtain ⟨v0, v1, v2, v3, v4, v5, v6⟩ := six'
   clear hrow hlies oy oz hy hz
   go_upto_region 18 with fail
   obtain ⟨S, HS⟩ : ∃ S : World → Prop, S = fun w' => Below w.heap.size w w' ∧ w'.cell? ⟨w.heap.size, 4, none⟩ = some (.string t) ∧ w'.cell? ⟨bl, o, none⟩ = some (.int .i64 ky) ∧ w'.cell? ⟨bl, o + 1, none⟩ = some (.bool by') ∧ w'.cell? ⟨bl, o + 2, none⟩ = some (.int .i64 my) ∧ w'.cell? ⟨bl, o + 3, none⟩ = some (.int .i64 sy) ∧ w'.cell? ⟨bl, o + 4, none⟩ = some (.string ty) ∧ w'.cell? ⟨bl, o + 5, none⟩ = some (.slice ay ly cy) ∧ w'.cell? ⟨bl, o + 6, none⟩ = some (.int .i64 kz) ∧ w'.cell? ⟨bl, o + 6 + 1, none⟩ = some (.bool bz) ∧ w'.cell? ⟨bl, o + 6 + 2, none⟩ = some (.int .i64 mz) ∧ w'.cell? ⟨bl, o + 6 + 3, none⟩ = some (.int .i64 sz) ∧ w'.cell? ⟨bl, o + 6 + 4, none⟩ = some (.string tz) ∧ w'.cell? ⟨bl, o + 6 + 5, none⟩ = some (.slice az lz cz) := ⟨_, rfl⟩
   have HSS := hide HS
   have S0V : S wr := by rw [HS]; exact ⟨B1, x5, u1, u2, u3, u4, u5, u6, v1, v2, v3, v4, v5, v6⟩
   have S0V := hide S0V
   have SB : Hid (∀ x, S x → Below w.heap.size w x) := hide (by rw [HS]; exact fun x h => h.1)
   have SKC : Hid (∀ x w' : World, S x → Below x.heap.size x w' → S w') := hide (by
    rw [HS]; rintro x w' ⟨h0, h1, h2, h3, h4, h5, h6, h7, h8, h9, h10, h11, h12, h13⟩ kk
    exact ⟨bstep h0 kk, kcl kk h1, kcl kk h2, kcl kk h3, kcl kk h4, kcl kk h5, kcl kk h6, kcl kk h7, kcl kk h8, kcl kk h9, kcl kk h10, kcl kk h11, kcl kk h12, kcl kk h13⟩)
   have SST : Hid (∀ (x : World) (p0 p1 p2 p3 p4 p5 : Value), S x → S ((((((x.setCell ⟨w.heap.size + 1, 0, none⟩ p0).setCell ⟨w.heap.size + 1, 1, none⟩ p1).setCell ⟨w.heap.size + 1, 2, none⟩ p2).setCell ⟨w.heap.size + 1, 3, none⟩ p3).setCell ⟨w.heap.size + 1, 4, none⟩ p4).setCell ⟨w.heap.size + 1, 5, none⟩ p5)) := hide (by
    rw [HS]; rintro x p0 p1 p2 p3 p4 p5 ⟨h0, h1, h2, h3, h4, h5, h6, h7, h8, h9, h10, h11, h12, h13⟩
    exact ⟨set6 h0 (by omega) _ _ _ _ _ _, (put6_cell (by omega) _ _ _ _ _ _).trans h1, (put6_cell (by omega) _ _ _ _ _ _).trans h2, (put6_cell (by omega) _ _ _ _ _ _).trans h3, (put6_cell (by omega) _ _ _ _ _ _).trans h4, (put6_cell (by omega) _ _ _ _ _ _).trans h5, (put6_cell (by omega) _ _ _ _ _ _).trans h6, (put6_cell (by omega) _ _ _ _ _ _).trans h7, (put6_cell (by omega) _ _ _ _ _ _).trans h8, (put6_cell (by omega) _ _ _ _ _ _).trans h9, (put6_cell (by omega) _ _ _ _ _ _).trans h10, (put6_cell (by omega) _ _ _ _ _ _).trans h11, (put6_cell (by omega) _ _ _ _ _ _).trans h12, (put6_cell (by omega) _ _ _ _ _ _).trans h13⟩)
   clear HS
   clear u0 u1 u2 u3 u4 u5 u6 v0 v1 v2 v3 v4 v5 v6 x0 x1 x2 x3 x4 x5 x6 x7 x8 X1
   refine wp_region_noPanic ?_
   refine wp_region_held_drew (S := S) (by kernel_rfl) (unhide SKC _ _ (unhide S0V) (Below.refl _ _).drew) (fun hHeld => ?_)
   have jda : Below wr.heap.size wr wr.drew := (Below.refl _ _).drew
   have YI0a := hide ((unhide YI).below jda)
   have ZI0a := hide ((unhide ZI).below jda)
   have o0ba := Own.below O1 jda
   clear jda
   generalize wr.drew = u0a at *
   refine takeC 0 (some 72) ?_
   refine takeC 1 (some 73) ?_
   refine takeC 2 (some 74) ?_
   refine takeC 3 (some 75) ?_
   refine takeC 4 (some 76) ?_
   refine takeC 5 (some 77) ?_
   refine takeC 6 (some 78) ?_
   refine takeC 7 (some 79) ?_
   refine wpAnyH_ready (rs := [8]) (by kernel_rfl) (by simp) ?_
   refine AllReadyH.cons rfl (fun K0 hK0 => ?_) AllReadyH.nil
   go_simp
   refine (unhide C _ (unhide YI0a) (unhide ZI0a)).mono ?_
   rintro e u1a ⟨rfl, j1a⟩
   unfold Tup leaf
   dsimp only [VT.val]
   go_wp2_with fail
   refine hK0.out _ _ (unhide SKC _ _ hHeld j1a) (fun hHeld1 => ?_)
   clear hK0 K0
   have o1ba := o0ba.below j1a
   have YI1a := hide ((unhide YI0a).below j1a)
   have ZI1a := hide ((unhide ZI0a).below j1a)
   clear j1a
   clear hHeld o0ba YI0a ZI0a
   have hHeld := hHeld1
   clear hHeld1
   try simp only [Act.put, List.setIfInBounds_toArray, List.set_cons_zero, List.set_cons_succ]
   refine takeC 9 (some 81) ?_
   refine takeC 10 (some 82) ?_
   refine wpAnyH_ready (rs := [11]) (by kernel_rfl) (by simp) ?_
   refine AllReadyH.cons rfl (fun K0 hK0 => ?_) AllReadyH.nil
   obtain ⟨⟨-, e0, e1, e2, e3, e4, e5⟩, f0, f1, f2, f3, f4, f5⟩ := id o1ba
   simp only [Nat.zero_add] at e0 e1 e2 e3 e4 e5
   go_simp
   clear e0 e1 e2 e3 e4 e5 f0 f1 f2 f3 f4 f5
   refine hK0.out _ _ (unhide SST _ _ _ _ _ _ _ hHeld) (fun hHeld1 => ?_)
   clear hK0 K0
   have s2ba := Own.put o1ba K BB M' SS TT none 0 0
   generalize ((((((u1a.setCell ⟨w.heap.size + 1, 0, none⟩ (.int .i64 K)).setCell ⟨w.heap.size + 1, 1, none⟩ (.bool BB)).setCell ⟨w.heap.size + 1, 2, none⟩ (.int .i64 M')).setCell ⟨w.heap.size + 1, 3, none⟩ (.int .i64 SS)).setCell ⟨w.heap.size + 1, 4, none⟩ (.string TT)).setCell ⟨w.heap.size + 1, 5, none⟩ (.slice none 0 0)) = u2a at *
   clear hHeld o1ba YI1a ZI1a
   have hHeld := hHeld1
   clear hHeld1
   try simp only [Act.put, List.setIfInBounds_toArray, List.set_cons_zero, List.set_cons_succ]
   refine takeC 12 (some 5) ?_
   refine wpAnyH_done (by kernel_rfl) ?_ _
   refine NoPanic.normal ?_
   have BQ := unhide SB _ hHeld
   clear hHeld
   obtain ⟨t9, t0, t1, t2, t3, t4, t5⟩ := s2ba
   simp only [Nat.zero_add] at t0 t1 t2 t3 t4 t5
   go_wp2_with fail
   exact bodyPost_ret (v := .tuple #[lfv K BB M' SS TT, .int .i64 XE]) zR12lt0t1t2t3t4t5 rfl ⟨by rw [unhide HR2]; exact lfr_val K BB M' SS TT XE rfl (unhide HOKB) _ _ _, BQ⟩
end
section
open VT (leaf mkV)
set_option maxRecDepth 10000 in
theorem reval_7 (b : Bool) (m s : Int) (t : ByteArray) (lo hi : Bool) (a : Option Addr) (len cap : Nat) (a9 : Option Addr) (c9 n9 : Nat) (w : World) (N : Nat) (k : Int) (hkc : k = 7) (hl : len = 1) (kid : Nat → XT) (ih : ∀ i, REvOf (kid i)) (es : List (ByteArray × VT)) (hn9 : n9 = es.length) (hin : (XT.mk k b m s t lo hi a len cap kid).In (fun _ => True) w) (hfit : fitZ (XT.mk k b m s t lo hi a len cap kid)) (henv : EnvIn w a9 es) (hel : es.length ≤ maxLen) (hlo : EnvLo N es) (hN : N ≤ w.heap.size) :
  Calls Tryz.prog 12 #[.agg #[.int .i64 k, .bool b, .int .i64 m, .int .i64 s, .string t, .bool lo, .bool hi, .slice a len cap], .slice a9 n9 c9] w fun e w' => REvRes N w.heap.size (if (kidsT (fun i => evT (envT es) (kid i)) len).2 = 0 then joinT k t lo hi (kidsT (fun i => evT (envT es) (kid i)) len).1 else (nilV, (kidsT (fun i => evT (envT es) (kid i)) len).2)) e w' ∧ Below w.heap.size w w' := by
 have BT := boxesX w k b m s t lo hi a len cap
 subst hn9
 have h8 : (k == 8) = false := by rw [hkc]; rfl
 have h6 : (k == 6) = false := by rw [hkc]; rfl
 have h7 : (k == 7) = true := by rw [hkc]; rfl
 have e1 : (kidsN k == -2) = false := by rw [hkc]; rfl
 have e4 : (kidsN k == 0) = false := by rw [hkc]; rfl
 have e2 : (kidsN k != (len : Int)) = false := by rw [hkc, hl]; rfl
 have e3 : (0 : Int) < kidsN k := by rw [hkc]; decide
 have HL := hide hl
 clear hl
 have HKC := hide hkc
 obtain ⟨hft, hfl, hfk⟩ := hfit
 have HFK := hide hfk
 have HEL := hide hel
 have HLO := hide hlo
 have HIH := hide ih
 generalize hRES : (if (kidsT (fun i => evT (envT es) (kid i)) len).2 = 0 then joinT k t lo hi (kidsT (fun i => evT (envT es) (kid i)) len).1 else (nilV, (kidsT (fun i => evT (envT es) (kid i)) len).2)) = RES
 generalize hf : (fun i => evT (envT es) (kid i)) = f at hRES
 have HRES := hide hRES
 have HF := hide (fun i => (congrFun hf i).symm)
 have HOKF := hide (show ∀ i, (f i).1.okB 2 = true from fun i => by rw [← hf]; exact ok_ev (env_ok (fun e he => (hlo e he).1)) (kid i))
 clear hRES hf hkc hel hlo ih hfk
 go_enter Tryz.func12, Tryz.ntmps12
 go_wp2_with fail
 generalize ((w.alloc (Obj.cells #[.int .i64 k, .bool b, .int .i64 m, .int .i64 s, .string t, .bool lo, .bool hi, .slice a len cap] 26)).alloc (Obj.cells #[.int .i64 0, .bool false, .int .i64 0, .int .i64 0, .string ⟨#[]⟩, .slice none 0 0] 32)) = V at *
 obtain ⟨X0, O0, B0, z0⟩ := BT
 obtain ⟨x0, x1, x2, x3, x4, x5, x6, x7, x8⟩ := id X0
 simp only [Nat.zero_add] at x1 x2 x3 x4 x5 x6 x7 x8
 refine (rkids_any _ _).mono ?_
 rintro e w0 ⟨rfl, rfl⟩
 generalize kidsN k = q at *
 go_wp2_with fail
 clear x0 x1 x2 x3 x4 x5 x6 x7 x8
 generalize hB : w.heap.size + 2 = B at *
 go_loopw [7, 8] (fun lv i wr => ∃ (j : Nat) (l : List VT), j ≤ len ∧ i = .int .i64 j ∧ Hid (l.length = j) ∧ Hid (Vals N B wr lv l) ∧ Hid (kidsT f j = (l.map VT.bare, 0)) ∧ XT.Eight wr w.heap.size 0 k b m s t lo hi a len cap ∧ Own wr (w.heap.size + 1) ∧ Below w.heap.size w wr ∧ B ≤ wr.heap.size) (fun _ i _ => len - (intOf i).toNat)
 case atStart => exact ⟨0, [], Nat.zero_le _, rfl, hide rfl, hide (Vals.nil _ _ _), hide rfl, X0, O0, B0, by omega⟩
 case round =>
  clear X0 O0 B0
  obtain ⟨j, l, hj, rfl, HLJ, HV, HK, X1, O1, B1, z1⟩ := hrel
  obtain ⟨ka, kc, rfl⟩ := (unhide HV).form
  obtain ⟨x0, x1, x2, x3, x4, x5, x6, x7, x8⟩ := id X1
  simp only [Nat.zero_add] at x1 x2 x3 x4 x5 x6 x7 x8
  by_cases hlt : j < len
  ·obtain ⟨bl, o, k', b', m', s', t', lo', hi', a', len', cap', kid', rfl, hx, eight, hk⟩ := hin.kid hlt
   obtain ⟨q0, q1, q2, q3, q4, q5, q6, q7, q8⟩ := eight.below B1
   have EV := unhide HIH j N es a9 c9 wr
   have HFJ := unhide HF j
   have HFKJ := unhide HFK j hlt
   have HOJ := hide (unhide HOKF j)
   rw [hx] at EV HFJ HFKJ
   have EVH := hide (EV (hk.below B1) HFKJ (henv.below B1) (unhide HEL) (unhide HLO) (Nat.le_trans hN B1.size))
   rw [← HFJ] at EVH
   have HFS := hide (show kidsT f (j + 1) = if (kidsT f j).2 = 0 then (if (f j).2 = 0 then ((kidsT f j).1 ++ [(f j).1], 0) else ([], (f j).2)) else ([], (kidsT f j).2) from rfl)
   have HST := hide (fun (E : Int) (he : E ≠ 0) (h : kidsT f (j + 1) = ([], E)) => kids_stop (f := f) (n := len) (j := j + 1) (by omega) he h)
   have jl2 : (j : Int) < (len : Int) := by omega
   clear EV HFJ HFKJ hx hk eight HIH HF
   generalize hfj : f j = FJ at *
   obtain ⟨RX, E⟩ := FJ
   clear hfj
   go_wp2_with fail
   refine (unhide EVH).mono ?_
   rintro e w2 ⟨⟨T, rfl, hT, hTl, hTb⟩, k2⟩
   obtain ⟨kq, bq, mq, sq, tq, aq, lq, cq, kidq, rfl⟩ := hT.form
   dsimp only [VT.val] at *
   have HV2 := hide ((unhide HV).below k2)
   have X2 := XT.Eight.below X1 k2
   have O2 := O1.below k2
   have B2 := bstep B1 k2
   have z2 := k2.size
   have hll : l.length ≤ 1759218604390 := by have := unhide HLJ; omega
   clear EVH X1 O1 B1 k2 q0 q1 q2 q3 q4 q5 q6 q7 q8 x0 x1 x2 x3 x4 x5 x6 x7 x8
   by_cases hE : E = 0
   ·subst hE
    have HT := hide hT
    have HTL := hide (show (VT.mk kq bq mq sq tq aq lq cq kidq).Lies (fun h => (h < N ∨ B ≤ h) ∧ some h ≠ (Value.slice ka l.length kc).ownBlock) from hTl.weak (fun g hg => by
     refine ⟨by omega, fun e => ?_⟩
     have := (unhide HV).lt g e.symm
     omega))
    have HTB := hide hTb
    have hown : ∀ g, (Value.slice ka l.length kc).ownBlock = some g → B ≤ g := fun g hg => ((unhide HV).lt g hg).1
    have HOWN := hide hown
    clear hT hTl hTb HV hown
    obtain ⟨x0, x1, x2, x3, x4, x5, x6, x7, x8⟩ := id X2
    simp only [Nat.zero_add] at x1 x2 x3 x4 x5 x6 x7 x8
    go_wp2_with (at_builtin; go_must (refine wpList_v rfl _ _ rfl N B _ l rfl (((unhide HV2).alloc _).alloc _) (w2.heap.size + 1) (((unhide HT).below (below1 _ _)).below (below1 _ _)) (unhide HTL) rfl (six_at (by simp) _ _ _ _ _ _ _ _) (by omega) (by simp; omega) ?_); intro v' w4 V4 gr4)
    have hne1 : some w.heap.size ≠ (Value.slice ka l.length kc).ownBlock := fun e => by have := unhide HOWN _ e.symm; omega
    have hne2 : some (w.heap.size + 1) ≠ (Value.slice ka l.length kc).ownBlock := fun e => by have := unhide HOWN _ e.symm; omega
    have X4 := eight_grown (XT.Eight.below (XT.Eight.below X2 (below1 _ _)) (below1 _ _)) gr4 hne1
    have O4 := own_grown (Own.below (Own.below O2 (below1 _ _)) (below1 _ _)) gr4 hne2
    have B4 := ((B2.alloc (by omega) _).alloc (by simp; omega) _).grown gr4 (by simp; omega) (fun g hg => by have := unhide HOWN g hg; omega)
    have z4 := gr4.size
    simp at z4
    have V4' := hide V4
    clear gr4 V4
    go_roundw
    case rel =>
     refine ⟨j + 1, l ++ [_], by omega, by go_num, hide (by rw [List.length_append, unhide HLJ]; rfl), V4', hide ?_, X4, O4, B4, by omega⟩
     rw [unhide HFS, unhide HK, if_pos rfl, if_pos rfl, List.map_append, List.map_cons, List.map_nil, unhide HTB]
    case measure => simp [intOf]; omega
   ·have HE2 := hide (show RES = (nilV, E) by
     have h1 : kidsT f (j + 1) = ([], E) := by rw [unhide HFS, unhide HK, if_pos rfl, if_neg hE]
     rw [← unhide HRES, unhide HST E hE h1, if_neg hE])
    have e5 : (E != 0) = true := by simpa using hE
    have hne : ¬ w.heap.size + 1 = w2.heap.size := by omega
    clear hE hT hTl hTb HV HV2
    obtain ⟨u0, t0, t1, t2, t3, t4, t5, f0, f1, f2, f3, f4, f5⟩ := Own.fl O2
    go_wp2_with fail
    refine bodyPost_ret (v := .tuple #[lfv 0 false 0 0 ⟨#[]⟩, .int .i64 E]) zR12lt0t1t2t3t4t5u0hne rfl ⟨?_, zBL⟩
    exact lfr_val 0 false 0 0 ⟨#[]⟩ E (unhide HE2) (by rw [unhide HE2]; exact ok_nil) _ _ _
  ·obtain rfl : j = len := by omega
   obtain ⟨-, hrow, hlies⟩ := (unhide HV).row
   have HOKL := hide (show ∀ v ∈ l, v.okB 2 = true from fun v hv => by
    have h := kids_ok (f := f) (n := j) (fun i _ => unhide HOKF i) v.bare (by rw [unhide HK]; exact List.mem_map_of_mem hv)
    rw [VT.okB_bare] at h; exact h)
   have HR := hide (show RES = joinT k t lo hi (l.map VT.bare) by rw [← unhide HRES, unhide HK, if_pos rfl])
   have hll : l.length ≤ 1759218604390 := by have := unhide HLJ; omega
   have hj0 : ¬ (j : Int) < (j : Int) := by omega
   clear HV HK HRES HIH HF HFK HOKF hlt
   obtain ⟨bl, o, ky, by', my, sy, ty, ay, ly, cy, kidy, rfl, rfl, six, hy⟩ := row_one hrow ((unhide HLJ).trans (unhide HL))
   have oy := unhide HOKL _ (List.mem_cons_self (a := VT.mk ky by' my sy ty ay ly cy kidy) (l := _))
   have HR2 := hide (show RES = negT (VT.mk ky by' my sy ty ay ly cy kidy) by rw [unhide HR, unhide HKC]; show negT (VT.bare _) = _; rw [neg_bare])
   have hbl : bl < N ∨ B ≤ bl := by
    obtain ⟨⟨bl', o', he, hq⟩, -⟩ := hlies 0 (by simp)
    obtain ⟨rfl, rfl⟩ : bl = bl' ∧ o = o' := by simpa using he
    exact hq
   obtain ⟨u0, u1, u2, u3, u4, u5, u6⟩ := six
   clear hrow hlies hy
   by_cases hk2 : ky = 2
   ·subst hk2
    have iy := num_of_ok oy rfl
    have iy2 : isB my sy = true := iy
    have HR3 := hide (show RES = (numV (-my) sy, 0) by rw [unhide HR2]; unfold negT; exact (if_pos (show kdV (VT.mk 2 by' my sy ty ay ly cy kidy) = 2 from rfl)).trans (sub_neg iy2))
    have HON := hide (show (numV (-my) sy).okB 2 = true from ok_num (by rw [isB_neg]; exact iy2))
    have ⟨m1, m2, s1, s2⟩ := isB_bd iy2
    have wrn : IntKind.i64.wrap (-my) = -my := i64_in (by omega) (by omega)
    have C := hide (fun w => rnumE_any (-my) sy 0 w)
    unfold recT at C
    rw [if_pos rfl] at C
    generalize hMM : -my = MM at *
    clear oy iy iy2 m1 m2 s1 s2
    go_upto_region 22 with fail
    obtain ⟨S, HS⟩ : ∃ S : World → Prop, S = fun w' => Below w.heap.size w w' ∧ w'.cell? ⟨bl, o + 2, none⟩ = some (.int .i64 my) ∧ w'.cell? ⟨bl, o + 3, none⟩ = some (.int .i64 sy) := ⟨_, rfl⟩
    have HSS := hide HS
    have S0V : S wr := by rw [HS]; exact ⟨B1, u3, u4⟩
    have S0V := hide S0V
    have SB : Hid (∀ x, S x → Below w.heap.size w x) := hide (by rw [HS]; exact fun x h => h.1)
    have SKC : Hid (∀ x w' : World, S x → Below x.heap.size x w' → S w') := hide (by
     rw [HS]; rintro x w' ⟨h0, h1, h2⟩ kk
     exact ⟨bstep h0 kk, kcl kk h1, kcl kk h2⟩)
    have SST : Hid (∀ (x : World) (p0 p1 p2 p3 p4 p5 : Value), S x → S ((((((x.setCell ⟨w.heap.size + 1, 0, none⟩ p0).setCell ⟨w.heap.size + 1, 1, none⟩ p1).setCell ⟨w.heap.size + 1, 2, none⟩ p2).setCell ⟨w.heap.size + 1, 3, none⟩ p3).setCell ⟨w.heap.size + 1, 4, none⟩ p4).setCell ⟨w.heap.size + 1, 5, none⟩ p5)) := hide (by
     rw [HS]; rintro x p0 p1 p2 p3 p4 p5 ⟨h0, h1, h2⟩
     exact ⟨set6 h0 (by omega) _ _ _ _ _ _, (put6_cell (by omega) _ _ _ _ _ _).trans h1, (put6_cell (by omega) _ _ _ _ _ _).trans h2⟩)
    clear HS
    clear u0 u1 u2 u3 u4 u5 u6 x0 x1 x2 x3 x4 x5 x6 x7 x8 X1
    refine wp_region_noPanic ?_
    refine wp_region_held_drew (S := S) (by kernel_rfl) (unhide SKC _ _ (unhide S0V) (Below.refl _ _).drew) (fun hHeld => ?_)
    have jda : Below wr.heap.size wr wr.drew := (Below.refl _ _).drew
    have o0ba := Own.below O1 jda
    clear jda
    generalize wr.drew = u0a at *
    refine takeC 0 (some 91) ?_
    refine takeC 1 (some 92) ?_
    refine takeC 2 (some 93) ?_
    refine takeC 3 (some 94) ?_
    refine takeC 4 (some 95) ?_
    refine takeC 5 (some 96) ?_
    refine takeC 6 (some 97) ?_
    refine takeC 7 (some 98) ?_
    refine takeC 8 (some 99) ?_
    refine takeC 9 (some 100) ?_
    refine takeC 10 (some 101) ?_
    refine takeC 11 (some 102) ?_
    refine wpAnyH_ready (rs := [12]) (by kernel_rfl) (by simp) ?_
    refine AllReadyH.cons rfl (fun K0 hK0 => ?_) AllReadyH.nil
    go_simp
    refine (unhide C _).mono ?_
    rintro e u1a ⟨rfl, j1a⟩
    unfold Tup numV leaf
    dsimp only [VT.val]
    go_wp2_with fail
    refine hK0.out _ _ (unhide SKC _ _ hHeld j1a) (fun hHeld1 => ?_)
    clear hK0 K0
    have o1ba := o0ba.below j1a
    clear j1a
    clear hHeld o0ba
    have hHeld := hHeld1
    clear hHeld1
    try simp only [Act.put, List.setIfInBounds_toArray, List.set_cons_zero, List.set_cons_succ]
    refine takeC 13 (some 104) ?_
    refine takeC 14 (some 105) ?_
    refine wpAnyH_ready (rs := [15]) (by kernel_rfl) (by simp) ?_
    refine AllReadyH.cons rfl (fun K0 hK0 => ?_) AllReadyH.nil
    obtain ⟨⟨-, e0, e1, e2, e3, e4, e5⟩, f0, f1, f2, f3, f4, f5⟩ := id o1ba
    simp only [Nat.zero_add] at e0 e1 e2 e3 e4 e5
    go_simp
    clear e0 e1 e2 e3 e4 e5 f0 f1 f2 f3 f4 f5
    refine hK0.out _ _ (unhide SST _ _ _ _ _ _ _ hHeld) (fun hHeld1 => ?_)
    clear hK0 K0
    have s2ba := Own.put o1ba 2 false MM sy ⟨#[]⟩ none 0 0
    generalize ((((((u1a.setCell ⟨w.heap.size + 1, 0, none⟩ (.int .i64 2)).setCell ⟨w.heap.size + 1, 1, none⟩ (.bool false)).setCell ⟨w.heap.size + 1, 2, none⟩ (.int .i64 MM)).setCell ⟨w.heap.size + 1, 3, none⟩ (.int .i64 sy)).setCell ⟨w.heap.size + 1, 4, none⟩ (.string ⟨#[]⟩)).setCell ⟨w.heap.size + 1, 5, none⟩ (.slice none 0 0)) = u2a at *
    clear hHeld o1ba
    have hHeld := hHeld1
    clear hHeld1
    try simp only [Act.put, List.setIfInBounds_toArray, List.set_cons_zero, List.set_cons_succ]
    refine takeC 16 (some 5) ?_
    refine wpAnyH_done (by kernel_rfl) ?_ _
    refine NoPanic.normal ?_
    have BQ := unhide SB _ hHeld
    clear hHeld
    obtain ⟨t9, t0, t1, t2, t3, t4, t5⟩ := s2ba
    simp only [Nat.zero_add] at t0 t1 t2 t3 t4 t5
    go_wp2_with fail
    exact bodyPost_ret (v := .tuple #[lfv 2 false MM sy ⟨#[]⟩, .int .i64 0]) zR12lt0t1t2t3t4t5 rfl ⟨by rw [unhide HR3]; exact lfr_val 2 false MM sy ⟨#[]⟩ 0 rfl (unhide HON) _ _ _, BQ⟩
   ·have HR3 := hide (show RES = (nilV, 0) by rw [unhide HR2]; unfold negT; exact if_neg (show ¬ kdV (VT.mk ky by' my sy ty ay ly cy kidy) = 2 from hk2))
    have e9 : (ky != 2) = true := by simpa using hk2
    clear hk2 oy
    obtain ⟨u0, t0, t1, t2, t3, t4, t5, f0, f1, f2, f3, f4, f5⟩ := Own.fl O1
    try unfold lfv
    go_wp2_with fail
    exact bodyPost_ret (v := .tuple #[lfv 0 false 0 0 ⟨#[]⟩, .int .i64 0]) zR12lt0t1t2t3t4t5 rfl ⟨by rw [unhide HR3]; exact lfr_val 0 false 0 0 ⟨#[]⟩ 0 rfl ok_nil _ _ _, zBL⟩
end
section
open VT (leaf mkV)
set_option maxRecDepth 10000 in
theorem reval_9 (b : Bool) (m s : Int) (t : ByteArray) (lo hi : Bool) (a : Option Addr) (len cap : Nat) (a9 : Option Addr) (c9 n9 : Nat) (w : World) (N : Nat) (k : Int) (hkc : k = 9) (kid : Nat → XT) (ih : ∀ i, REvOf (kid i)) (es : List (ByteArray × VT)) (hn9 : n9 = es.length) (hin : (XT.mk k b m s t lo hi a len cap kid).In (fun _ => True) w) (hfit : fitZ (XT.mk k b m s t lo hi a len cap kid)) (henv : EnvIn w a9 es) (hel : es.length ≤ maxLen) (hlo : EnvLo N es) (hN : N ≤ w.heap.size) :
  Calls Tryz.prog 12 #[.agg #[.int .i64 k, .bool b, .int .i64 m, .int .i64 s, .string t, .bool lo, .bool hi, .slice a len cap], .slice a9 n9 c9] w fun e w' => REvRes N w.heap.size (if (kidsT (fun i => evT (envT es) (kid i)) len).2 = 0 then joinT k t lo hi (kidsT (fun i => evT (envT es) (kid i)) len).1 else (nilV, (kidsT (fun i => evT (envT es) (kid i)) len).2)) e w' ∧ Below w.heap.size w w' := by
 have BT := boxesX w k b m s t lo hi a len cap
 subst hn9
 have h8 : (k == 8) = false := by rw [hkc]; rfl
 have h6 : (k == 6) = false := by rw [hkc]; rfl
 have h7 : (k == 7) = false := by rw [hkc]; rfl
 have h9 : (k == 9) = true := by rw [hkc]; rfl
 have e1 : (kidsN k == -2) = false := by rw [hkc]; rfl
 have e4 : (kidsN k == 0) = false := by rw [hkc]; rfl
 have e3 : ¬ (0 : Int) < kidsN k := by rw [hkc]; decide
 have HKC := hide hkc
 obtain ⟨hft, hfl, hfk⟩ := hfit
 have HFK := hide hfk
 have HEL := hide hel
 have HLO := hide hlo
 have HIH := hide ih
 generalize hRES : (if (kidsT (fun i => evT (envT es) (kid i)) len).2 = 0 then joinT k t lo hi (kidsT (fun i => evT (envT es) (kid i)) len).1 else (nilV, (kidsT (fun i => evT (envT es) (kid i)) len).2)) = RES
 generalize hf : (fun i => evT (envT es) (kid i)) = f at hRES
 have HRES := hide hRES
 have HF := hide (fun i => (congrFun hf i).symm)
 have HOKF := hide (show ∀ i, (f i).1.okB 2 = true from fun i => by rw [← hf]; exact ok_ev (env_ok (fun e he => (hlo e he).1)) (kid i))
 clear hRES hf hkc hel hlo ih hfk
 go_enter Tryz.func12, Tryz.ntmps12
 go_wp2_with fail
 generalize ((w.alloc (Obj.cells #[.int .i64 k, .bool b, .int .i64 m, .int .i64 s, .string t, .bool lo, .bool hi, .slice a len cap] 26)).alloc (Obj.cells #[.int .i64 0, .bool false, .int .i64 0, .int .i64 0, .string ⟨#[]⟩, .slice none 0 0] 32)) = V at *
 obtain ⟨X0, O0, B0, z0⟩ := BT
 obtain ⟨x0, x1, x2, x3, x4, x5, x6, x7, x8⟩ := id X0
 simp only [Nat.zero_add] at x1 x2 x3 x4 x5 x6 x7 x8
 refine (rkids_any _ _).mono ?_
 rintro e w0 ⟨rfl, rfl⟩
 generalize kidsN k = q at *
 go_wp2_with fail
 clear x0 x1 x2 x3 x4 x5 x6 x7 x8
 generalize hB : w.heap.size + 2 = B at *
 go_loopw [7, 8] (fun lv i wr => ∃ (j : Nat) (l : List VT), j ≤ len ∧ i = .int .i64 j ∧ Hid (l.length = j) ∧ Hid (Vals N B wr lv l) ∧ Hid (kidsT f j = (l.map VT.bare, 0)) ∧ XT.Eight wr w.heap.size 0 k b m s t lo hi a len cap ∧ Own wr (w.heap.size + 1) ∧ Below w.heap.size w wr ∧ B ≤ wr.heap.size) (fun _ i _ => len - (intOf i).toNat)
 case atStart => exact ⟨0, [], Nat.zero_le _, rfl, hide rfl, hide (Vals.nil _ _ _), hide rfl, X0, O0, B0, by omega⟩
 case round =>
  clear X0 O0 B0
  obtain ⟨j, l, hj, rfl, HLJ, HV, HK, X1, O1, B1, z1⟩ := hrel
  obtain ⟨ka, kc, rfl⟩ := (unhide HV).form
  obtain ⟨x0, x1, x2, x3, x4, x5, x6, x7, x8⟩ := id X1
  simp only [Nat.zero_add] at x1 x2 x3 x4 x5 x6 x7 x8
  by_cases hlt : j < len
  ·obtain ⟨bl, o, k', b', m', s', t', lo', hi', a', len', cap', kid', rfl, hx, eight, hk⟩ := hin.kid hlt
   obtain ⟨q0, q1, q2, q3, q4, q5, q6, q7, q8⟩ := eight.below B1
   have EV := unhide HIH j N es a9 c9 wr
   have HFJ := unhide HF j
   have HFKJ := unhide HFK j hlt
   have HOJ := hide (unhide HOKF j)
   rw [hx] at EV HFJ HFKJ
   have EVH := hide (EV (hk.below B1) HFKJ (henv.below B1) (unhide HEL) (unhide HLO) (Nat.le_trans hN B1.size))
   rw [← HFJ] at EVH
   have HFS := hide (show kidsT f (j + 1) = if (kidsT f j).2 = 0 then (if (f j).2 = 0 then ((kidsT f j).1 ++ [(f j).1], 0) else ([], (f j).2)) else ([], (kidsT f j).2) from rfl)
   have HST := hide (fun (E : Int) (he : E ≠ 0) (h : kidsT f (j + 1) = ([], E)) => kids_stop (f := f) (n := len) (j := j + 1) (by omega) he h)
   have jl2 : (j : Int) < (len : Int) := by omega
   clear EV HFJ HFKJ hx hk eight HIH HF
   generalize hfj : f j = FJ at *
   obtain ⟨RX, E⟩ := FJ
   clear hfj
   go_wp2_with fail
   refine (unhide EVH).mono ?_
   rintro e w2 ⟨⟨T, rfl, hT, hTl, hTb⟩, k2⟩
   obtain ⟨kq, bq, mq, sq, tq, aq, lq, cq, kidq, rfl⟩ := hT.form
   dsimp only [VT.val] at *
   have HV2 := hide ((unhide HV).below k2)
   have X2 := XT.Eight.below X1 k2
   have O2 := O1.below k2
   have B2 := bstep B1 k2
   have z2 := k2.size
   have hll : l.length ≤ 1759218604390 := by have := unhide HLJ; omega
   clear EVH X1 O1 B1 k2 q0 q1 q2 q3 q4 q5 q6 q7 q8 x0 x1 x2 x3 x4 x5 x6 x7 x8
   by_cases hE : E = 0
   ·subst hE
    have HT := hide hT
    have HTL := hide (show (VT.mk kq bq mq sq tq aq lq cq kidq).Lies (fun h => (h < N ∨ B ≤ h) ∧ some h ≠ (Value.slice ka l.length kc).ownBlock) from hTl.weak (fun g hg => by
     refine ⟨by omega, fun e => ?_⟩
     have := (unhide HV).lt g e.symm
     omega))
    have HTB := hide hTb
    have hown : ∀ g, (Value.slice ka l.length kc).ownBlock = some g → B ≤ g := fun g hg => ((unhide HV).lt g hg).1
    have HOWN := hide hown
    clear hT hTl hTb HV hown
    obtain ⟨x0, x1, x2, x3, x4, x5, x6, x7, x8⟩ := id X2
    simp only [Nat.zero_add] at x1 x2 x3 x4 x5 x6 x7 x8
    go_wp2_with (at_builtin; go_must (refine wpList_v rfl _ _ rfl N B _ l rfl (((unhide HV2).alloc _).alloc _) (w2.heap.size + 1) (((unhide HT).below (below1 _ _)).below (below1 _ _)) (unhide HTL) rfl (six_at (by simp) _ _ _ _ _ _ _ _) (by omega) (by simp; omega) ?_); intro v' w4 V4 gr4)
    have hne1 : some w.heap.size ≠ (Value.slice ka l.length kc).ownBlock := fun e => by have := unhide HOWN _ e.symm; omega
    have hne2 : some (w.heap.size + 1) ≠ (Value.slice ka l.length kc).ownBlock := fun e => by have := unhide HOWN _ e.symm; omega
    have X4 := eight_grown (XT.Eight.below (XT.Eight.below X2 (below1 _ _)) (below1 _ _)) gr4 hne1
    have O4 := own_grown (Own.below (Own.below O2 (below1 _ _)) (below1 _ _)) gr4 hne2
    have B4 := ((B2.alloc (by omega) _).alloc (by simp; omega) _).grown gr4 (by simp; omega) (fun g hg => by have := unhide HOWN g hg; omega)
    have z4 := gr4.size
    simp at z4
    have V4' := hide V4
    clear gr4 V4
    go_roundw
    case rel =>
     refine ⟨j + 1, l ++ [_], by omega, by go_num, hide (by rw [List.length_append, unhide HLJ]; rfl), V4', hide ?_, X4, O4, B4, by omega⟩
     rw [unhide HFS, unhide HK, if_pos rfl, if_pos rfl, List.map_append, List.map_cons, List.map_nil, unhide HTB]
    case measure => simp [intOf]; omega
   ·have HE2 := hide (show RES = (nilV, E) by
     have h1 : kidsT f (j + 1) = ([], E) := by rw [unhide HFS, unhide HK, if_pos rfl, if_neg hE]
     rw [← unhide HRES, unhide HST E hE h1, if_neg hE])
    have e5 : (E != 0) = true := by simpa using hE
    have hne : ¬ w.heap.size + 1 = w2.heap.size := by omega
    clear hE hT hTl hTb HV HV2
    obtain ⟨u0, t0, t1, t2, t3, t4, t5, f0, f1, f2, f3, f4, f5⟩ := Own.fl O2
    go_wp2_with fail
    refine bodyPost_ret (v := .tuple #[lfv 0 false 0 0 ⟨#[]⟩, .int .i64 E]) zR12lt0t1t2t3t4t5u0hne rfl ⟨?_, zBL⟩
    exact lfr_val 0 false 0 0 ⟨#[]⟩ E (unhide HE2) (by rw [unhide HE2]; exact ok_nil) _ _ _
  ·obtain rfl : j = len := by omega
   obtain ⟨-, hrow, hlies⟩ := (unhide HV).row
   have HOKL := hide (show ∀ v ∈ l, v.okB 2 = true from fun v hv => by
    have h := kids_ok (f := f) (n := j) (fun i _ => unhide HOKF i) v.bare (by rw [unhide HK]; exact List.mem_map_of_mem hv)
    rw [VT.okB_bare] at h; exact h)
   have HR := hide (show RES = joinT k t lo hi (l.map VT.bare) by rw [← unhide HRES, unhide HK, if_pos rfl])
   have hll : l.length ≤ 1759218604390 := by have := unhide HLJ; omega
   have hj0 : ¬ (j : Int) < (j : Int) := by omega
   clear HV HK HRES HIH HF HFK HOKF hlt
   have C := hide (fun w h => rlistE_any ka kc l w h (unhide HOKL))
   have HLB := hide (show (lisV (l.map VT.bare)).okB 2 = (lisV l).okB 2 by rw [← rowT_bare ka kc l, VT.okB_bare]; rfl)
   have HROW := hide hrow
   have HLI := hide hlies
   clear hrow hlies
   cases hok : (lisV l).okB 2
   ·rw [hok, if_neg (by simp)] at C
    have HR2 := hide (show RES = (nilV, 3) by rw [unhide HR, unhide HKC]; show lisT _ = _; unfold lisT; rw [unhide HLB, hok]; rfl)
    clear hok
    go_wp2_with fail
    refine (unhide C _ (unhide HROW)).mono ?_
    rintro e w2 ⟨rfl, k2⟩
    have O2 := O1.below k2
    have B2 := bstep B1 k2
    clear k2 O1 B1 x0 x1 x2 x3 x4 x5 x6 x7 x8 X1
    unfold Tup nilV leaf
    dsimp only [VT.val]
    obtain ⟨u0, t0, t1, t2, t3, t4, t5, f0, f1, f2, f3, f4, f5⟩ := Own.fl O2
    try unfold lfv
    go_wp2_with fail
    exact bodyPost_ret (v := .tuple #[lfv 0 false 0 0 ⟨#[]⟩, .int .i64 3]) zR12lt0t1t2t3t4t5 rfl ⟨by rw [unhide HR2]; exact lfr_val 0 false 0 0 ⟨#[]⟩ 3 rfl ok_nil _ _ _, zBL⟩
   ·rw [hok, if_pos rfl] at C
    have HR2 := hide (show RES = (lisV (l.map VT.bare), 0) by rw [unhide HR, unhide HKC]; show lisT _ = _; unfold lisT; rw [unhide HLB, hok]; rfl)
    have C2 := hide (show ∀ w, (rowT ka kc l).In w → Calls Tryz.prog 33 #[.slice ka l.length kc] w fun e w' => e = .returned (.tuple #[.agg #[.int .i64 4, .bool false, .int .i64 0, .int .i64 0, .string ⟨#[]⟩, .slice ka l.length kc], .int .i64 0]) ∧ Below w.heap.size w w' from unhide C)
    clear hok C
    go_wp2_with fail
    refine (unhide C2 _ (unhide HROW)).mono ?_
    rintro e w2 ⟨rfl, k2⟩
    have O2 := O1.below k2
    have B2 := bstep B1 k2
    have YI := hide ((unhide HROW).below k2)
    clear k2 O1 B1 x0 x1 x2 x3 x4 x5 x6 x7 x8 X1
    obtain ⟨u0, t0, t1, t2, t3, t4, t5, f0, f1, f2, f3, f4, f5⟩ := Own.fl O2
    go_wp2_with fail
    refine bodyPost_ret (v := .tuple #[.agg #[.int .i64 4, .bool false, .int .i64 0, .int .i64 0, .string ⟨#[]⟩, .slice ka l.length kc], .int .i64 0]) (by simp [results, Tryz.results12, go_sem, t0, t1, t2, t3, t4, t5]) rfl ⟨?_, zBL⟩
    rw [unhide HR2]
    refine ⟨rowT ka kc l, rfl, ?_, ?_, rowT_bare ka kc l⟩
    ·exact VT.In.kept (fun bl o _ hq => put_cell w2 (w.heap.size + 1) 0 _ _ _ _ _ _ (by omega)) _ (unhide YI) (unhide HLI)
    ·exact (unhide HLI).weak (fun h hh => by omega)
end
section
open VT (leaf mkV)
set_option maxRecDepth 10000 in
theorem reval_10 (b : Bool) (m s : Int) (t : ByteArray) (lo hi : Bool) (a : Option Addr) (len cap : Nat) (a9 : Option Addr) (c9 n9 : Nat) (w : World) (N : Nat) (k : Int) (hkc : k = 10) (kid : Nat → XT) (ih : ∀ i, REvOf (kid i)) (es : List (ByteArray × VT)) (hn9 : n9 = es.length) (hin : (XT.mk k b m s t lo hi a len cap kid).In (fun _ => True) w) (hfit : fitZ (XT.mk k b m s t lo hi a len cap kid)) (henv : EnvIn w a9 es) (hel : es.length ≤ maxLen) (hlo : EnvLo N es) (hN : N ≤ w.heap.size) :
  Calls Tryz.prog 12 #[.agg #[.int .i64 k, .bool b, .int .i64 m, .int .i64 s, .string t, .bool lo, .bool hi, .slice a len cap], .slice a9 n9 c9] w fun e w' => REvRes N w.heap.size (if (kidsT (fun i => evT (envT es) (kid i)) len).2 = 0 then joinT k t lo hi (kidsT (fun i => evT (envT es) (kid i)) len).1 else (nilV, (kidsT (fun i => evT (envT es) (kid i)) len).2)) e w' ∧ Below w.heap.size w w' := by
 have BT := boxesX w k b m s t lo hi a len cap
 subst hn9
 have h8 : (k == 8) = false := by rw [hkc]; rfl
 have h6 : (k == 6) = false := by rw [hkc]; rfl
 have h7 : (k == 7) = false := by rw [hkc]; rfl
 have h9 : (k == 9) = false := by rw [hkc]; rfl
 have h10 : (k == 10) = true := by rw [hkc]; rfl
 have e1 : (kidsN k == -2) = false := by rw [hkc]; rfl
 have e4 : (kidsN k == 0) = false := by rw [hkc]; rfl
 have e3 : ¬ (0 : Int) < kidsN k := by rw [hkc]; decide
 have HKC := hide hkc
 obtain ⟨hft, hfl, hfk⟩ := hfit
 have HFK := hide hfk
 have HEL := hide hel
 have HLO := hide hlo
 have HIH := hide ih
 generalize hRES : (if (kidsT (fun i => evT (envT es) (kid i)) len).2 = 0 then joinT k t lo hi (kidsT (fun i => evT (envT es) (kid i)) len).1 else (nilV, (kidsT (fun i => evT (envT es) (kid i)) len).2)) = RES
 generalize hf : (fun i => evT (envT es) (kid i)) = f at hRES
 have HRES := hide hRES
 have HF := hide (fun i => (congrFun hf i).symm)
 have HOKF := hide (show ∀ i, (f i).1.okB 2 = true from fun i => by rw [← hf]; exact ok_ev (env_ok (fun e he => (hlo e he).1)) (kid i))
 clear hRES hf hkc hel hlo ih hfk
 go_enter Tryz.func12, Tryz.ntmps12
 go_wp2_with fail
 generalize ((w.alloc (Obj.cells #[.int .i64 k, .bool b, .int .i64 m, .int .i64 s, .string t, .bool lo, .bool hi, .slice a len cap] 26)).alloc (Obj.cells #[.int .i64 0, .bool false, .int .i64 0, .int .i64 0, .string ⟨#[]⟩, .slice none 0 0] 32)) = V at *
 obtain ⟨X0, O0, B0, z0⟩ := BT
 obtain ⟨x0, x1, x2, x3, x4, x5, x6, x7, x8⟩ := id X0
 simp only [Nat.zero_add] at x1 x2 x3 x4 x5 x6 x7 x8
 refine (rkids_any _ _).mono ?_
 rintro e w0 ⟨rfl, rfl⟩
 generalize kidsN k = q at *
 go_wp2_with fail
 clear x0 x1 x2 x3 x4 x5 x6 x7 x8
 generalize hB : w.heap.size + 2 = B at *
 go_loopw [7, 8] (fun lv i wr => ∃ (j : Nat) (l : List VT), j ≤ len ∧ i = .int .i64 j ∧ Hid (l.length = j) ∧ Hid (Vals N B wr lv l) ∧ Hid (kidsT f j = (l.map VT.bare, 0)) ∧ XT.Eight wr w.heap.size 0 k b m s t lo hi a len cap ∧ Own wr (w.heap.size + 1) ∧ Below w.heap.size w wr ∧ B ≤ wr.heap.size) (fun _ i _ => len - (intOf i).toNat)
 case atStart => exact ⟨0, [], Nat.zero_le _, rfl, hide rfl, hide (Vals.nil _ _ _), hide rfl, X0, O0, B0, by omega⟩
 case round =>
  clear X0 O0 B0
  obtain ⟨j, l, hj, rfl, HLJ, HV, HK, X1, O1, B1, z1⟩ := hrel
  obtain ⟨ka, kc, rfl⟩ := (unhide HV).form
  obtain ⟨x0, x1, x2, x3, x4, x5, x6, x7, x8⟩ := id X1
  simp only [Nat.zero_add] at x1 x2 x3 x4 x5 x6 x7 x8
  by_cases hlt : j < len
  ·obtain ⟨bl, o, k', b', m', s', t', lo', hi', a', len', cap', kid', rfl, hx, eight, hk⟩ := hin.kid hlt
   obtain ⟨q0, q1, q2, q3, q4, q5, q6, q7, q8⟩ := eight.below B1
   have EV := unhide HIH j N es a9 c9 wr
   have HFJ := unhide HF j
   have HFKJ := unhide HFK j hlt
   have HOJ := hide (unhide HOKF j)
   rw [hx] at EV HFJ HFKJ
   have EVH := hide (EV (hk.below B1) HFKJ (henv.below B1) (unhide HEL) (unhide HLO) (Nat.le_trans hN B1.size))
   rw [← HFJ] at EVH
   have HFS := hide (show kidsT f (j + 1) = if (kidsT f j).2 = 0 then (if (f j).2 = 0 then ((kidsT f j).1 ++ [(f j).1], 0) else ([], (f j).2)) else ([], (kidsT f j).2) from rfl)
   have HST := hide (fun (E : Int) (he : E ≠ 0) (h : kidsT f (j + 1) = ([], E)) => kids_stop (f := f) (n := len) (j := j + 1) (by omega) he h)
   have jl2 : (j : Int) < (len : Int) := by omega
   clear EV HFJ HFKJ hx hk eight HIH HF
   generalize hfj : f j = FJ at *
   obtain ⟨RX, E⟩ := FJ
   clear hfj
   go_wp2_with fail
   refine (unhide EVH).mono ?_
   rintro e w2 ⟨⟨T, rfl, hT, hTl, hTb⟩, k2⟩
   obtain ⟨kq, bq, mq, sq, tq, aq, lq, cq, kidq, rfl⟩ := hT.form
   dsimp only [VT.val] at *
   have HV2 := hide ((unhide HV).below k2)
   have X2 := XT.Eight.below X1 k2
   have O2 := O1.below k2
   have B2 := bstep B1 k2
   have z2 := k2.size
   have hll : l.length ≤ 1759218604390 := by have := unhide HLJ; omega
   clear EVH X1 O1 B1 k2 q0 q1 q2 q3 q4 q5 q6 q7 q8 x0 x1 x2 x3 x4 x5 x6 x7 x8
   by_cases hE : E = 0
   ·subst hE
    have HT := hide hT
    have HTL := hide (show (VT.mk kq bq mq sq tq aq lq cq kidq).Lies (fun h => (h < N ∨ B ≤ h) ∧ some h ≠ (Value.slice ka l.length kc).ownBlock) from hTl.weak (fun g hg => by
     refine ⟨by omega, fun e => ?_⟩
     have := (unhide HV).lt g e.symm
     omega))
    have HTB := hide hTb
    have hown : ∀ g, (Value.slice ka l.length kc).ownBlock = some g → B ≤ g := fun g hg => ((unhide HV).lt g hg).1
    have HOWN := hide hown
    clear hT hTl hTb HV hown
    obtain ⟨x0, x1, x2, x3, x4, x5, x6, x7, x8⟩ := id X2
    simp only [Nat.zero_add] at x1 x2 x3 x4 x5 x6 x7 x8
    go_wp2_with (at_builtin; go_must (refine wpList_v rfl _ _ rfl N B _ l rfl (((unhide HV2).alloc _).alloc _) (w2.heap.size + 1) (((unhide HT).below (below1 _ _)).below (below1 _ _)) (unhide HTL) rfl (six_at (by simp) _ _ _ _ _ _ _ _) (by omega) (by simp; omega) ?_); intro v' w4 V4 gr4)
    have hne1 : some w.heap.size ≠ (Value.slice ka l.length kc).ownBlock := fun e => by have := unhide HOWN _ e.symm; omega
    have hne2 : some (w.heap.size + 1) ≠ (Value.slice ka l.length kc).ownBlock := fun e => by have := unhide HOWN _ e.symm; omega
    have X4 := eight_grown (XT.Eight.below (XT.Eight.below X2 (below1 _ _)) (below1 _ _)) gr4 hne1
    have O4 := own_grown (Own.below (Own.below O2 (below1 _ _)) (below1 _ _)) gr4 hne2
    have B4 := ((B2.alloc (by omega) _).alloc (by simp; omega) _).grown gr4 (by simp; omega) (fun g hg => by have := unhide HOWN g hg; omega)
    have z4 := gr4.size
    simp at z4
    have V4' := hide V4
    clear gr4 V4
    go_roundw
    case rel =>
     refine ⟨j + 1, l ++ [_], by omega, by go_num, hide (by rw [List.length_append, unhide HLJ]; rfl), V4', hide ?_, X4, O4, B4, by omega⟩
     rw [unhide HFS, unhide HK, if_pos rfl, if_pos rfl, List.map_append, List.map_cons, List.map_nil, unhide HTB]
    case measure => simp [intOf]; omega
   ·have HE2 := hide (show RES = (nilV, E) by
     have h1 : kidsT f (j + 1) = ([], E) := by rw [unhide HFS, unhide HK, if_pos rfl, if_neg hE]
     rw [← unhide HRES, unhide HST E hE h1, if_neg hE])
    have e5 : (E != 0) = true := by simpa using hE
    have hne : ¬ w.heap.size + 1 = w2.heap.size := by omega
    clear hE hT hTl hTb HV HV2
    obtain ⟨u0, t0, t1, t2, t3, t4, t5, f0, f1, f2, f3, f4, f5⟩ := Own.fl O2
    go_wp2_with fail
    refine bodyPost_ret (v := .tuple #[lfv 0 false 0 0 ⟨#[]⟩, .int .i64 E]) zR12lt0t1t2t3t4t5u0hne rfl ⟨?_, zBL⟩
    exact lfr_val 0 false 0 0 ⟨#[]⟩ E (unhide HE2) (by rw [unhide HE2]; exact ok_nil) _ _ _
  ·obtain rfl : j = len := by omega
   obtain ⟨-, hrow, hlies⟩ := (unhide HV).row
   have HOKL := hide (show ∀ v ∈ l, v.okB 2 = true from fun v hv => by
    have h := kids_ok (f := f) (n := j) (fun i _ => unhide HOKF i) v.bare (by rw [unhide HK]; exact List.mem_map_of_mem hv)
    rw [VT.okB_bare] at h; exact h)
   have HR := hide (show RES = joinT k t lo hi (l.map VT.bare) by rw [← unhide HRES, unhide HK, if_pos rfl])
   have hll : l.length ≤ 1759218604390 := by have := unhide HLJ; omega
   have hj0 : ¬ (j : Int) < (j : Int) := by omega
   clear HV HK HRES HIH HF HFK HOKF hlt
   have C := hide (fun w h => rcall_any (XT.tl t) ka kc l w h (unhide HOKL) hll)
   rw [ba_tl] at C
   have HR2 := hide (show RES = callT (XT.tl t) l by rw [unhide HR, unhide HKC]; show callT _ _ = _; rw [call_bare])
   have HOKC := hide (show (callT (XT.tl t) l).1.okB 2 = true from ok_call (unhide HOKL))
   have HROW := hide hrow
   clear hrow hlies
   generalize callT (XT.tl t) l = X at *
   go_wp2_with fail
   refine (unhide C _ (unhide HROW)).mono ?_
   rintro e w2 ⟨⟨K, BB, M', SS, TT, AA, CC, rfl, hX, hc⟩, k2⟩
   have O2 := O1.below k2
   have B2 := bstep B1 k2
   have HRR := hide (show LfRes X (.returned (.tuple #[.agg #[.int .i64 K, .bool BB, .int .i64 M', .int .i64 SS, .string TT, .slice AA 0 CC], .int .i64 X.2])) from ⟨K, BB, M', SS, TT, AA, CC, rfl, hX, hc⟩)
   clear k2 O1 B1 hX hc x0 x1 x2 x3 x4 x5 x6 x7 x8 X1
   obtain ⟨u0, t0, t1, t2, t3, t4, t5, f0, f1, f2, f3, f4, f5⟩ := Own.fl O2
   try unfold lfv
   go_wp2_with fail
   exact bodyPost_ret (v := .tuple #[.agg #[.int .i64 K, .bool BB, .int .i64 M', .int .i64 SS, .string TT, .slice AA 0 CC], .int .i64 X.2]) zR12lt0t1t2t3t4t5 rfl ⟨by rw [unhide HR2]; exact rev_lf (unhide HRR) (unhide HOKC) _ _ _, zBL⟩
end
end Go.Proofs.YtfdimdjmnfdecaaGreat

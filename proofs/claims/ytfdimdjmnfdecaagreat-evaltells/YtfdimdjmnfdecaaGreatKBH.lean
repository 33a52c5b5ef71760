/- RE6 RE7 ValOrdersM RE8: laid together. -/
import Derived.Test.YtfdimdjmnfdecaaGreatKBG
import Derived.Deep.DeepCutAuto
set_option linter.unusedVariables false
set_option linter.unusedSimpArgs false
set_option maxHeartbeats 8000000
namespace Go.Proofs.YtfdimdjmnfdecaaGreat
open Go.RowKit
section
open VT (leaf mkV)
theorem kcl {x w' : World} (kk : Below x.heap.size x w') {a : Addr} {v : Value} (h : x.cell? a = some v) : w'.cell? a = some v := (World.cell?_of_block (w := x) (kk.block a.block (World.block_lt_of_cell? _ _ h))).trans h
theorem put6_cell {w : World} {g k i : Nat} (h : k ≠ g) (v0 v1 v2 v3 v4 v5 : Value) : ((((((w.setCell ⟨g, 0, none⟩ v0).setCell ⟨g, 1, none⟩ v1).setCell ⟨g, 2, none⟩ v2).setCell ⟨g, 3, none⟩ v3).setCell ⟨g, 4, none⟩ v4).setCell ⟨g, 5, none⟩ v5).cell? ⟨k, i, none⟩ = w.cell? ⟨k, i, none⟩ :=
 World.cell?_of_block (w := w) (by rw [Below.heap_setCell _ _ _ _ h, Below.heap_setCell _ _ _ _ h, Below.heap_setCell _ _ _ _ h, Below.heap_setCell _ _ _ _ h, Below.heap_setCell _ _ _ _ h, Below.heap_setCell _ _ _ _ h])
set_option maxRecDepth 10000 in
theorem rbetween_any (lo hi : Bool) (x y z : VT) (w : World) (hx : x.okB 2 = true) (hy : y.okB 2 = true) (hz : z.okB 2 = true) (hin : x.In w) (hin' : y.In w) (hin2 : z.In w) :
  Calls Tryz.prog 35 #[x.val, y.val, z.val, .bool lo, .bool hi] w fun e w' => e = .returned (inT lo hi x y z).val ∧ Below w.heap.size w w' := by
 obtain ⟨k, b, m, s, t, a, len, cap, kid, rfl⟩ := hin.form
 obtain ⟨k', b', m', s', t', a', len', cap', kid', rfl⟩ := hin'.form
 obtain ⟨k2, b2, m2, s2, t2, a2, len2, cap2, kid2, rfl⟩ := hin2.form
 show Calls Tryz.prog 35 #[.agg #[.int .i64 k, .bool b, .int .i64 m, .int .i64 s, .string t, .slice a len cap], .agg #[.int .i64 k', .bool b', .int .i64 m', .int .i64 s', .string t', .slice a' len' cap'], .agg #[.int .i64 k2, .bool b2, .int .i64 m2, .int .i64 s2, .string t2, .slice a2 len2 cap2], .bool lo, .bool hi] w fun e w' => e = .returned (andV (relT (if lo = true then [62, 61] else [62]) (VT.mk k b m s t a len cap kid) (VT.mk k' b' m' s' t' a' len' cap' kid')) (relT (if hi = true then [60, 61] else [60]) (VT.mk k b m s t a len cap kid) (VT.mk k2 b2 m2 s2 t2 a2 len2 cap2 kid2))).val ∧ _
 have R1 := hide (fun w h h' => rrel_any (if lo = true then [62, 61] else [62]) (VT.mk k b m s t a len cap kid) (VT.mk k' b' m' s' t' a' len' cap' kid') w hx hy h h')
 have R2 := hide (fun w h h' => rrel_any (if hi = true then [60, 61] else [60]) (VT.mk k b m s t a len cap kid) (VT.mk k2 b2 m2 s2 t2 a2 len2 cap2 kid2) w hx hz h h')
 obtain ⟨n1, c1, e1⟩ := relE_leaf (if lo = true then [62, 61] else [62]) (VT.mk k b m s t a len cap kid) (VT.mk k' b' m' s' t' a' len' cap' kid')
 obtain ⟨n2, c2, e2⟩ := relE_leaf (if hi = true then [60, 61] else [60]) (VT.mk k b m s t a len cap kid) (VT.mk k2 b2 m2 s2 t2 a2 len2 cap2 kid2)
 rw [e1] at R1 ⊢
 rw [e2] at R2 ⊢
 have bb : Below w.heap.size w ((((w.alloc (Obj.cells #[.int .i64 k, .bool b, .int .i64 m, .int .i64 s, .string t, .slice a len cap] 32)).alloc (Obj.cells #[.int .i64 k', .bool b', .int .i64 m', .int .i64 s', .string t', .slice a' len' cap'] 32)).alloc (Obj.cells #[.int .i64 k2, .bool b2, .int .i64 m2, .int .i64 s2, .string t2, .slice a2 len2 cap2] 32)).alloc (Obj.cells #[.int .i64 0, .bool false, .int .i64 0, .int .i64 0, .string ⟨#[]⟩, .slice none 0 0] 32)) := (below3 w _ _ _).alloc (by simp; omega) _
 have XI := hide (hin.below bb)
 have YI := hide (hin'.below bb)
 have ZI := hide (hin2.below bb)
 have F0 := (((six_new w k b m s t a len cap).below (below1 _ (Obj.cells #[.int .i64 k', .bool b', .int .i64 m', .int .i64 s', .string t', .slice a' len' cap'] 32))).below (below1 _ (Obj.cells #[.int .i64 k2, .bool b2, .int .i64 m2, .int .i64 s2, .string t2, .slice a2 len2 cap2] 32))).below (below1 _ (Obj.cells #[.int .i64 0, .bool false, .int .i64 0, .int .i64 0, .string ⟨#[]⟩, .slice none 0 0] 32))
 have F1 := ((six_new (w.alloc (Obj.cells #[.int .i64 k, .bool b, .int .i64 m, .int .i64 s, .string t, .slice a len cap] 32)) k' b' m' s' t' a' len' cap').below (below1 _ (Obj.cells #[.int .i64 k2, .bool b2, .int .i64 m2, .int .i64 s2, .string t2, .slice a2 len2 cap2] 32))).below (below1 _ (Obj.cells #[.int .i64 0, .bool false, .int .i64 0, .int .i64 0, .string ⟨#[]⟩, .slice none 0 0] 32))
 have F2 := (six_new ((w.alloc (Obj.cells #[.int .i64 k, .bool b, .int .i64 m, .int .i64 s, .string t, .slice a len cap] 32)).alloc (Obj.cells #[.int .i64 k', .bool b', .int .i64 m', .int .i64 s', .string t', .slice a' len' cap'] 32)) k2 b2 m2 s2 t2 a2 len2 cap2).below (below1 _ (Obj.cells #[.int .i64 0, .bool false, .int .i64 0, .int .i64 0, .string ⟨#[]⟩, .slice none 0 0] 32))
 have O0 := Own.new (((w.alloc (Obj.cells #[.int .i64 k, .bool b, .int .i64 m, .int .i64 s, .string t, .slice a len cap] 32)).alloc (Obj.cells #[.int .i64 k', .bool b', .int .i64 m', .int .i64 s', .string t', .slice a' len' cap'] 32)).alloc (Obj.cells #[.int .i64 k2, .bool b2, .int .i64 m2, .int .i64 s2, .string t2, .slice a2 len2 cap2] 32)) 32
 rw [show (w.alloc (Obj.cells #[.int .i64 k, .bool b, .int .i64 m, .int .i64 s, .string t, .slice a len cap] 32)).heap.size = w.heap.size + 1 by simp] at F1
 rw [show ((w.alloc (Obj.cells #[.int .i64 k, .bool b, .int .i64 m, .int .i64 s, .string t, .slice a len cap] 32)).alloc (Obj.cells #[.int .i64 k', .bool b', .int .i64 m', .int .i64 s', .string t', .slice a' len' cap'] 32)).heap.size = w.heap.size + 1 + 1 by simp] at F2
 rw [show (((w.alloc (Obj.cells #[.int .i64 k, .bool b, .int .i64 m, .int .i64 s, .string t, .slice a len cap] 32)).alloc (Obj.cells #[.int .i64 k', .bool b', .int .i64 m', .int .i64 s', .string t', .slice a' len' cap'] 32)).alloc (Obj.cells #[.int .i64 k2, .bool b2, .int .i64 m2, .int .i64 s2, .string t2, .slice a2 len2 cap2] 32)).heap.size = w.heap.size + 1 + 1 + 1 by simp] at O0
 clear e1 e2 hx hy hz hin hin' hin2
 cases lo <;> cases hi
 all_goals
  simp only [Bool.false_eq_true, if_false, if_true] at R1 R2
  go_enter Tryz.func35, Tryz.ntmps35
  go_upto_region 6 with fail
  generalize ((((w.alloc (Obj.cells #[.int .i64 k, .bool b, .int .i64 m, .int .i64 s, .string t, .slice a len cap] 32)).alloc (Obj.cells #[.int .i64 k', .bool b', .int .i64 m', .int .i64 s', .string t', .slice a' len' cap'] 32)).alloc (Obj.cells #[.int .i64 k2, .bool b2, .int .i64 m2, .int .i64 s2, .string t2, .slice a2 len2 cap2] 32)).alloc (Obj.cells #[.int .i64 0, .bool false, .int .i64 0, .int .i64 0, .string ⟨#[]⟩, .slice none 0 0] 32)) = V at *
  obtain ⟨u0, u1, u2, u3, u4, u5, u6⟩ := F0
  obtain ⟨v0, v1, v2, v3, v4, v5, v6⟩ := F1
  obtain ⟨z0, z1, z2, z3, z4, z5, z6⟩ := F2
  simp only [Nat.zero_add] at u1 u2 u3 u4 u5 u6 v1 v2 v3 v4 v5 v6 z1 z2 z3 z4 z5 z6
  obtain ⟨S, HS⟩ : ∃ S : World → Prop, S = fun w' => Below w.heap.size w w' ∧ w'.cell? ⟨w.heap.size, 0, none⟩ = some (.int .i64 k) ∧ w'.cell? ⟨w.heap.size, 1, none⟩ = some (.bool b) ∧ w'.cell? ⟨w.heap.size, 2, none⟩ = some (.int .i64 m) ∧ w'.cell? ⟨w.heap.size, 3, none⟩ = some (.int .i64 s) ∧ w'.cell? ⟨w.heap.size, 4, none⟩ = some (.string t) ∧ w'.cell? ⟨w.heap.size, 5, none⟩ = some (.slice a len cap) ∧ w'.cell? ⟨(w.heap.size + 1), 0, none⟩ = some (.int .i64 k') ∧ w'.cell? ⟨(w.heap.size + 1), 1, none⟩ = some (.bool b') ∧ w'.cell? ⟨(w.heap.size + 1), 2, none⟩ = some (.int .i64 m') ∧ w'.cell? ⟨(w.heap.size + 1), 3, none⟩ = some (.int .i64 s') ∧ w'.cell? ⟨(w.heap.size + 1), 4, none⟩ = some (.string t') ∧ w'.cell? ⟨(w.heap.size + 1), 5, none⟩ = some (.slice a' len' cap') ∧ w'.cell? ⟨(w.heap.size + 1 + 1), 0, none⟩ = some (.int .i64 k2) ∧ w'.cell? ⟨(w.heap.size + 1 + 1), 1, none⟩ = some (.bool b2) ∧ w'.cell? ⟨(w.heap.size + 1 + 1), 2, none⟩ = some (.int .i64 m2) ∧ w'.cell? ⟨(w.heap.size + 1 + 1), 3, none⟩ = some (.int .i64 s2) ∧ w'.cell? ⟨(w.heap.size + 1 + 1), 4, none⟩ = some (.string t2) ∧ w'.cell? ⟨(w.heap.size + 1 + 1), 5, none⟩ = some (.slice a2 len2 cap2) := ⟨_, rfl⟩
  have HSS := hide HS
  have S0V : S V := by rw [HS]; exact ⟨bb, u1, u2, u3, u4, u5, u6, v1, v2, v3, v4, v5, v6, z1, z2, z3, z4, z5, z6⟩
  have S0V := hide S0V
  have SB : Hid (∀ x, S x → Below w.heap.size w x) := hide (by rw [HS]; exact fun x h => h.1)
  have SKC : Hid (∀ x w' : World, S x → Below x.heap.size x w' → S w') := hide (by
   rw [HS]; rintro x w' ⟨h0, h1, h2, h3, h4, h5, h6, h7, h8, h9, h10, h11, h12, h13, h14, h15, h16, h17, h18⟩ kk
   exact ⟨bstep h0 kk, kcl kk h1, kcl kk h2, kcl kk h3, kcl kk h4, kcl kk h5, kcl kk h6, kcl kk h7, kcl kk h8, kcl kk h9, kcl kk h10, kcl kk h11, kcl kk h12, kcl kk h13, kcl kk h14, kcl kk h15, kcl kk h16, kcl kk h17, kcl kk h18⟩)
  have SST : Hid (∀ (x : World) (p0 p1 p2 p3 p4 p5 : Value), S x → S ((((((x.setCell ⟨w.heap.size + 1 + 1 + 1, 0, none⟩ p0).setCell ⟨w.heap.size + 1 + 1 + 1, 1, none⟩ p1).setCell ⟨w.heap.size + 1 + 1 + 1, 2, none⟩ p2).setCell ⟨w.heap.size + 1 + 1 + 1, 3, none⟩ p3).setCell ⟨w.heap.size + 1 + 1 + 1, 4, none⟩ p4).setCell ⟨w.heap.size + 1 + 1 + 1, 5, none⟩ p5)) := hide (by
   rw [HS]; rintro x p0 p1 p2 p3 p4 p5 ⟨h0, h1, h2, h3, h4, h5, h6, h7, h8, h9, h10, h11, h12, h13, h14, h15, h16, h17, h18⟩
   exact ⟨set6 h0 (by omega) _ _ _ _ _ _, (put6_cell (by omega) _ _ _ _ _ _).trans h1, (put6_cell (by omega) _ _ _ _ _ _).trans h2, (put6_cell (by omega) _ _ _ _ _ _).trans h3, (put6_cell (by omega) _ _ _ _ _ _).trans h4, (put6_cell (by omega) _ _ _ _ _ _).trans h5, (put6_cell (by omega) _ _ _ _ _ _).trans h6, (put6_cell (by omega) _ _ _ _ _ _).trans h7, (put6_cell (by omega) _ _ _ _ _ _).trans h8, (put6_cell (by omega) _ _ _ _ _ _).trans h9, (put6_cell (by omega) _ _ _ _ _ _).trans h10, (put6_cell (by omega) _ _ _ _ _ _).trans h11, (put6_cell (by omega) _ _ _ _ _ _).trans h12, (put6_cell (by omega) _ _ _ _ _ _).trans h13, (put6_cell (by omega) _ _ _ _ _ _).trans h14, (put6_cell (by omega) _ _ _ _ _ _).trans h15, (put6_cell (by omega) _ _ _ _ _ _).trans h16, (put6_cell (by omega) _ _ _ _ _ _).trans h17, (put6_cell (by omega) _ _ _ _ _ _).trans h18⟩)
  clear HS
  clear u0 u1 u2 u3 u4 u5 u6 v0 v1 v2 v3 v4 v5 v6 z0 z1 z2 z3 z4 z5 z6
  refine wp_region_noPanic ?_
  refine wp_region_held_drew (S := S) (by kernel_rfl) (unhide SKC _ _ (unhide S0V) (Below.refl _ _).drew) (fun hHeld => ?_)
  have jda : Below V.heap.size V V.drew := (Below.refl _ _).drew
  have XI0a := hide ((unhide XI).below jda)
  have YI0a := hide ((unhide YI).below jda)
  have ZI0a := hide ((unhide ZI).below jda)
  have o0ba := Own.below O0 jda
  clear jda
  generalize V.drew = u0a at *
  refine takeC 0 (some 15) ?_
  refine takeC 1 (some 16) ?_
  refine takeC 2 (some 17) ?_
  refine takeC 4 (some 19) ?_
  refine takeC 5 (some 20) ?_
  refine takeC 6 (some 21) ?_
  refine wpAnyH_ready (rs := [3]) (by kernel_rfl) (by simp) ?_
  refine AllReadyH.cons rfl (fun K0 hK0 => ?_) AllReadyH.nil
  go_simp
  refine (unhide R1 _ (unhide XI0a) (unhide YI0a)).mono ?_
  rintro e u1a ⟨rfl, j1a⟩
  unfold leaf
  dsimp only [VT.val]
  go_wp2_with fail
  refine hK0.out _ _ (unhide SKC _ _ hHeld j1a) (fun hHeld1 => ?_)
  clear hK0 K0
  have o1ba := o0ba.below j1a
  have XI1a := hide ((unhide XI0a).below j1a)
  have YI1a := hide ((unhide YI0a).below j1a)
  have ZI1a := hide ((unhide ZI0a).below j1a)
  clear j1a
  clear hHeld o0ba XI0a YI0a ZI0a
  have hHeld := hHeld1
  clear hHeld1
  try simp only [Act.put, List.setIfInBounds_toArray, List.set_cons_zero, List.set_cons_succ]
  refine wpAnyH_ready (rs := [7]) (by kernel_rfl) (by simp) ?_
  refine AllReadyH.cons rfl (fun K0 hK0 => ?_) AllReadyH.nil
  go_simp
  refine (unhide R2 _ (unhide XI1a) (unhide ZI1a)).mono ?_
  rintro e u2a ⟨rfl, j2a⟩
  unfold leaf
  dsimp only [VT.val]
  go_wp2_with fail
  refine hK0.out _ _ (unhide SKC _ _ hHeld j2a) (fun hHeld1 => ?_)
  clear hK0 K0
  have o2ba := o1ba.below j2a
  have XI2a := hide ((unhide XI1a).below j2a)
  have YI2a := hide ((unhide YI1a).below j2a)
  have ZI2a := hide ((unhide ZI1a).below j2a)
  clear j2a
  clear hHeld o1ba XI1a YI1a ZI1a
  have hHeld := hHeld1
  clear hHeld1
  try simp only [Act.put, List.setIfInBounds_toArray, List.set_cons_zero, List.set_cons_succ]
  refine wpAnyH_ready (rs := [8]) (by kernel_rfl) (by simp) ?_
  refine AllReadyH.cons rfl (fun K0 hK0 => ?_) AllReadyH.nil
  go_simp
  refine (rand_any _ _ _ _ _ _ _ _ _ _ _ _ _ _ _ _ _).mono ?_
  rintro e u3a ⟨rfl, j3a⟩
  unfold tval
  go_wp2_with fail
  refine hK0.out _ _ (unhide SKC _ _ hHeld j3a) (fun hHeld1 => ?_)
  clear hK0 K0
  have o3ba := o2ba.below j3a
  have XI3a := hide ((unhide XI2a).below j3a)
  have YI3a := hide ((unhide YI2a).below j3a)
  have ZI3a := hide ((unhide ZI2a).below j3a)
  clear j3a
  clear hHeld o2ba XI2a YI2a ZI2a
  have hHeld := hHeld1
  clear hHeld1
  try simp only [Act.put, List.setIfInBounds_toArray, List.set_cons_zero, List.set_cons_succ]
  refine wpAnyH_ready (rs := [9]) (by kernel_rfl) (by simp) ?_
  refine AllReadyH.cons rfl (fun K0 hK0 => ?_) AllReadyH.nil
  obtain ⟨⟨-, e0, e1, e2, e3, e4, e5⟩, f0, f1, f2, f3, f4, f5⟩ := id o3ba
  simp only [Nat.zero_add] at e0 e1 e2 e3 e4 e5
  go_simp
  clear e0 e1 e2 e3 e4 e5 f0 f1 f2 f3 f4 f5
  refine hK0.out _ _ (unhide SST _ _ _ _ _ _ _ hHeld) (fun hHeld1 => ?_)
  clear hK0 K0
  have s4ba := Own.put o3ba (andK (unB n1 c1) (unB n2 c2) (trB n1 c1) (trB n2 c2)) (andB (unB n1 c1) (unB n2 c2) (trB n1 c1) (trB n2 c2)) 0 0 ⟨#[]⟩ none 0 0
  generalize ((((((u3a.setCell ⟨w.heap.size + 1 + 1 + 1, 0, none⟩ (.int .i64 (andK (unB n1 c1) (unB n2 c2) (trB n1 c1) (trB n2 c2)))).setCell ⟨w.heap.size + 1 + 1 + 1, 1, none⟩ (.bool (andB (unB n1 c1) (unB n2 c2) (trB n1 c1) (trB n2 c2)))).setCell ⟨w.heap.size + 1 + 1 + 1, 2, none⟩ (.int .i64 0)).setCell ⟨w.heap.size + 1 + 1 + 1, 3, none⟩ (.int .i64 0)).setCell ⟨w.heap.size + 1 + 1 + 1, 4, none⟩ (.string ⟨#[]⟩)).setCell ⟨w.heap.size + 1 + 1 + 1, 5, none⟩ (.slice none 0 0)) = u4a at *
  clear hHeld o3ba XI3a YI3a ZI3a
  have hHeld := hHeld1
  clear hHeld1
  try simp only [Act.put, List.setIfInBounds_toArray, List.set_cons_zero, List.set_cons_succ]
  refine wpAnyH_done (by kernel_rfl) ?_ _
  refine NoPanic.normal ?_
  have BQ := unhide SB _ hHeld
  clear hHeld
  obtain ⟨t9, t0, t1, t2, t3, t4, t5⟩ := s4ba
  simp only [Nat.zero_add] at t0 t1 t2 t3 t4 t5
  go_wp2_with fail
  exact bodyPost_ret (v := lfv (andK (unB n1 c1) (unB n2 c2) (trB n1 c1) (trB n2 c2)) (andB (unB n1 c1) (unB n2 c2) (trB n1 c1) (trB n2 c2)) 0 0 ⟨#[]⟩) (by simp [results, Tryz.results35, go_sem, lfv, t0, t1, t2, t3, t4, t5]) rfl ⟨rfl, BQ⟩
end
section
def kidsN (k : Int) : Int := if k = 1 ∨ k = 2 ∨ k = 3 ∨ k = 4 ∨ k = 5 then 0 else if k = 7 then 1 else if k = 6 then 2 else if k = 8 ∨ k = 11 then 3 else if k = 9 ∨ k = 10 then -1 else -2
theorem rkids_any (k : Int) (w : World) :
  Calls Tryz.prog 28 #[.int .i64 k] w fun e w' => e = .returned (.int .i64 (kidsN k)) ∧ w' = w := by
 by_cases h1 : k = 1
 ·subst h1
  go_enter Tryz.func28, Tryz.ntmps28
  go_wp2_with fail
  go_ret
  exact ⟨ret_int (by decide), rfl⟩
 by_cases h2 : k = 2
 ·subst h2
  go_enter Tryz.func28, Tryz.ntmps28
  go_wp2_with fail
  go_ret
  exact ⟨ret_int (by decide), rfl⟩
 by_cases h3 : k = 3
 ·subst h3
  go_enter Tryz.func28, Tryz.ntmps28
  go_wp2_with fail
  go_ret
  exact ⟨ret_int (by decide), rfl⟩
 by_cases h4 : k = 4
 ·subst h4
  go_enter Tryz.func28, Tryz.ntmps28
  go_wp2_with fail
  go_ret
  exact ⟨ret_int (by decide), rfl⟩
 by_cases h5 : k = 5
 ·subst h5
  go_enter Tryz.func28, Tryz.ntmps28
  go_wp2_with fail
  go_ret
  exact ⟨ret_int (by decide), rfl⟩
 by_cases h6 : k = 6
 ·subst h6
  go_enter Tryz.func28, Tryz.ntmps28
  go_wp2_with fail
  go_ret
  exact ⟨ret_int (by decide), rfl⟩
 by_cases h7 : k = 7
 ·subst h7
  go_enter Tryz.func28, Tryz.ntmps28
  go_wp2_with fail
  go_ret
  exact ⟨ret_int (by decide), rfl⟩
 by_cases h8 : k = 8
 ·subst h8
  go_enter Tryz.func28, Tryz.ntmps28
  go_wp2_with fail
  go_ret
  exact ⟨ret_int (by decide), rfl⟩
 by_cases h9 : k = 9
 ·subst h9
  go_enter Tryz.func28, Tryz.ntmps28
  go_wp2_with fail
  go_ret
  exact ⟨ret_int (by decide), rfl⟩
 by_cases h10 : k = 10
 ·subst h10
  go_enter Tryz.func28, Tryz.ntmps28
  go_wp2_with fail
  go_ret
  exact ⟨ret_int (by decide), rfl⟩
 by_cases h11 : k = 11
 ·subst h11
  go_enter Tryz.func28, Tryz.ntmps28
  go_wp2_with fail
  go_ret
  exact ⟨ret_int (by decide), rfl⟩
 have e1 : (k == 1) = false := by simpa using h1
 have e2 : (k == 2) = false := by simpa using h2
 have e3 : (k == 3) = false := by simpa using h3
 have e4 : (k == 4) = false := by simpa using h4
 have e5 : (k == 5) = false := by simpa using h5
 have e6 : (k == 6) = false := by simpa using h6
 have e7 : (k == 7) = false := by simpa using h7
 have e8 : (k == 8) = false := by simpa using h8
 have e9 : (k == 9) = false := by simpa using h9
 have e10 : (k == 10) = false := by simpa using h10
 have e11 : (k == 11) = false := by simpa using h11
 have hk : kidsN k = -2 := by
  unfold kidsN
  rw [if_neg (by omega), if_neg h7, if_neg h6, if_neg (by omega), if_neg (by omega)]
 rw [hk]
 clear hk h1 h2 h3 h4 h5 h6 h7 h8 h9 h10 h11
 go_enter Tryz.func28, Tryz.ntmps28
 go_wp2_with fail
 go_ret
 exact ⟨ret_int rfl, rfl⟩
end
section
theorem cmpB_bd (a b : Bool) : -1 ≤ cmpB a b ∧ cmpB a b ≤ 1 := by cases a <;> cases b <;> decide
theorem cmpS_bd (s t : ByteArray) : -1 ≤ cmpS s t ∧ cmpS s t ≤ 1 := cb_bd _ _
theorem lex_bd {f : Nat → Int} {z : Int} {n : Nat} (hf : ∀ i, i < n → -1 ≤ f i ∧ f i ≤ 1) (hz : -1 ≤ z ∧ z ≤ 1) : -1 ≤ lexF f z n ∧ lexF f z n ≤ 1 := by
 rcases lex_cases f z n with ⟨j, hj, -, -, e⟩ | ⟨-, e⟩
 ·rw [e]; exact hf j hj
 ·rw [e]; exact hz
theorem cmp_bds (x : VT) : ∀ (y : VT), -1 ≤ x.cmp y ∧ x.cmp y ≤ 1 := by
 induction x with
 | none => intro y; cases y <;> (unfold VT.cmp; omega)
 | mk k b m s t a len cap kid ih =>
  intro y
  cases y with
  | none => unfold VT.cmp; omega
  | mk k' b' m' s' t' a' len' cap' kid' =>
   unfold VT.cmp
   split
   ·exact cmp_bd _ _
   split
   ·exact cmpB_bd _ _
   split
   ·exact cmp_bd _ _
   split
   ·exact cmpS_bd _ _
   ·exact lex_bd (fun i _ => ih i (kid' i)) (cmp_bd _ _)
end
section
open VT (leaf mkV)
def OwnX (w : World) (g : Nat) (k : Int) (b : Bool) (m s : Int) (t : ByteArray) (a : Option Addr) (len cap : Nat) : Prop := VT.Six w g 0 k b m s t a len cap ∧ w.frozen? ⟨g, 0, none⟩ = false ∧ w.frozen? ⟨g, 1, none⟩ = false ∧ w.frozen? ⟨g, 2, none⟩ = false ∧ w.frozen? ⟨g, 3, none⟩ = false ∧ w.frozen? ⟨g, 4, none⟩ = false ∧ w.frozen? ⟨g, 5, none⟩ = false
theorem OwnX.below {w w' : World} {g : Nat} {k : Int} {b : Bool} {m s : Int} {t : ByteArray} {a : Option Addr} {len cap : Nat} (h : OwnX w g k b m s t a len cap) (q : Below w.heap.size w w') : OwnX w' g k b m s t a len cap := by
 obtain ⟨h, f0, f1, f2, f3, f4, f5⟩ := h
 have hc := fun o => (bcell q).2 g o h.1
 exact ⟨h.below q, (hc 0).trans f0, (hc 1).trans f1, (hc 2).trans f2, (hc 3).trans f3, (hc 4).trans f4, (hc 5).trans f5⟩
theorem OwnX.new (w : World) (k : Int) (b : Bool) (m s : Int) (t : ByteArray) (a : Option Addr) (len cap : Nat) (ty : TypeId) : OwnX (w.alloc (Obj.cells #[.int .i64 k, .bool b, .int .i64 m, .int .i64 s, .string t, .slice a len cap] ty)) w.heap.size k b m s t a len cap :=
 ⟨⟨by simp, by go_simp, by go_simp, by go_simp, by go_simp, by go_simp, by go_simp⟩, by go_simp, by go_simp, by go_simp, by go_simp, by go_simp, by go_simp⟩
theorem OwnX.put {w : World} {g : Nat} {k : Int} {b : Bool} {m s : Int} {t : ByteArray} {a : Option Addr} {len cap : Nat} (h : OwnX w g k b m s t a len cap) (K : Int) (B : Bool) (M S : Int) (T : ByteArray) (A : Option Addr) (L C : Nat) :
  OwnX ((((((w.setCell ⟨g, 0, none⟩ (.int .i64 K)).setCell ⟨g, 1, none⟩ (.bool B)).setCell ⟨g, 2, none⟩ (.int .i64 M)).setCell ⟨g, 3, none⟩ (.int .i64 S)).setCell ⟨g, 4, none⟩ (.string T)).setCell ⟨g, 5, none⟩ (.slice A L C)) g K B M S T A L C := by
 obtain ⟨⟨h0, e0, e1, e2, e3, e4, e5⟩, f0, f1, f2, f3, f4, f5⟩ := h
 simp only [Nat.zero_add] at e0 e1 e2 e3 e4 e5
 refine ⟨⟨by simpa [World.setCell] using h0, ?_, ?_, ?_, ?_, ?_, ?_⟩, ?_, ?_, ?_, ?_, ?_, ?_⟩
 all_goals go_simp
def lstV (sg : Int) : List VT → VT → VT
 | [], x => x
 | v :: l, x => lstV sg l (if v.cmp x * sg < 0 then v else x)
def lstR (sg : Int) : List VT → VT
 | [] => nilV
 | v :: l => lstV sg l v
theorem In_put6 {w : World} {x : VT} {g : Nat} (h : x.In w) (hg : x.Lies (fun q => q ≠ g)) (v0 v1 v2 v3 v4 v5 : Value) : x.In ((((((w.setCell ⟨g, 0, none⟩ v0).setCell ⟨g, 1, none⟩ v1).setCell ⟨g, 2, none⟩ v2).setCell ⟨g, 3, none⟩ v3).setCell ⟨g, 4, none⟩ v4).setCell ⟨g, 5, none⟩ v5) :=
 VT.In.kept (fun bl o _ hq => put6_cell hq v0 v1 v2 v3 v4 v5) x h hg
theorem rleast_any (a0 : Option Addr) (cap0 : Nat) (l : List VT) (sg : Int) (w : World) (hin : (rowT a0 cap0 l).In w) (hok : ∀ v ∈ l, v.okB 2 = true) (hsg : sg = 1 ∨ sg = -1) :
  Calls Tryz.prog 94 #[.slice a0 l.length cap0, .int .i64 sg] w fun e w' => e = .returned (lstR sg l).val ∧ Below w.heap.size w w' := by
 obtain ⟨⟨_, _, _, _, hlc, hlm⟩, _⟩ := id hin
 unfold maxLen at hlm
 cases l with
 | nil =>
  clear hok hin
  go_enter Tryz.func94, Tryz.ntmps94
  go_wp2_with fail
  exact bodyPost_ret (v := lfv 0 false 0 0 ⟨#[]⟩) (by simp [results, Tryz.results94, go_sem, lfv]) rfl ⟨rfl, zBL⟩
 | cons v0 l =>
  obtain ⟨bl, o, ka, ba, ma, sa, ta, aa, lena, capa, kida, rfl, hx0, six0, hk0⟩ := hin.kid (i := 0) (by simp)
  have hv0 : v0 = .mk ka ba ma sa ta aa lena capa kida := by simpa using hx0
  subst hv0
  have okA : (VT.mk ka ba ma sa ta aa lena capa kida).okB 2 = true := hok _ (by simp)
  show Calls Tryz.prog 94 #[.slice (some ⟨bl, o, none⟩) (l.length + 1) cap0, .int .i64 sg] w fun e w' => e = .returned (lstV sg l (VT.mk ka ba ma sa ta aa lena capa kida)).val ∧ _
  generalize hR : lstV sg l (VT.mk ka ba ma sa ta aa lena capa kida) = R
  have HR : Hid (lstV sg (l.drop 0) (VT.mk ka ba ma sa ta aa lena capa kida) = R) := hide (by rw [List.drop_zero]; exact hR)
  clear hR
  have O0 := (Own.new w 32).below (below1 _ (Obj.cells #[.int .i64 ka, .bool ba, .int .i64 ma, .int .i64 sa, .string ta, .slice aa lena capa] 32))
  have X0 := OwnX.new (w.alloc (Obj.cells #[.int .i64 0, .bool false, .int .i64 0, .int .i64 0, .string ⟨#[]⟩, .slice none 0 0] 32)) ka ba ma sa ta aa lena capa 32
  rw [show (w.alloc (Obj.cells #[.int .i64 0, .bool false, .int .i64 0, .int .i64 0, .string ⟨#[]⟩, .slice none 0 0] 32)).heap.size = w.heap.size + 1 by simp] at X0
  have B0 := below2 w (Obj.cells #[.int .i64 0, .bool false, .int .i64 0, .int .i64 0, .string ⟨#[]⟩, .slice none 0 0] 32) (Obj.cells #[.int .i64 ka, .bool ba, .int .i64 ma, .int .i64 sa, .string ta, .slice aa lena capa] 32)
  have z0 : ((w.alloc (Obj.cells #[.int .i64 0, .bool false, .int .i64 0, .int .i64 0, .string ⟨#[]⟩, .slice none 0 0] 32)).alloc (Obj.cells #[.int .i64 ka, .bool ba, .int .i64 ma, .int .i64 sa, .string ta, .slice aa lena capa] 32)).heap.size = w.heap.size + 2 := by simp
  have hin0 := hin.lies
  have HOK := hide hok
  have IN0 := hide (hin.below B0)
  have XI0 := hide (hk0.below B0)
  rw [show o + 0 * 6 = o by omega] at six0
  obtain ⟨p0, p1, p2, p3, p4, p5, p6⟩ := six0
  have hlc' : l.length + 1 ≤ cap0 := hlc
  have e0 : ((l.length : Int) + 1 == 0) = false := by simp; omega
  clear hin hok hx0 hk0 hlc
  go_enter Tryz.func94, Tryz.ntmps94
  go_wp2_with fail
  generalize ((w.alloc (Obj.cells #[.int .i64 0, .bool false, .int .i64 0, .int .i64 0, .string ⟨#[]⟩, .slice none 0 0] 32)).alloc (Obj.cells #[.int .i64 ka, .bool ba, .int .i64 ma, .int .i64 sa, .string ta, .slice aa lena capa] 32)) = V at *
  generalize hB : w.heap.size = B at *
  have HB := hide hB
  clear hB p0 p1 p2 p3 p4 p5 p6
  go_loopw [6] (fun i wr => ∃ (j : Nat) (k : Int) (b : Bool) (m s : Int) (t : ByteArray) (a : Option Addr) (len cap : Nat) (kid : Nat → VT), j ≤ l.length ∧ i = .int .i64 (j + 1) ∧ Hid (lstV sg (l.drop j) (VT.mk k b m s t a len cap kid) = R) ∧ (VT.mk k b m s t a len cap kid).okB 2 = true ∧ Hid ((VT.mk k b m s t a len cap kid).In wr) ∧ Own wr B ∧ OwnX wr (B + 1) k b m s t a len cap ∧ Below B w wr ∧ B + 2 ≤ wr.heap.size ∧ Hid ((rowT (some ⟨bl, o, none⟩) cap0 (VT.mk ka ba ma sa ta aa lena capa kida :: l)).In wr)) (fun i _ => l.length + 1 - (intOf i).toNat)
  case atStart => exact ⟨0, ka, ba, ma, sa, ta, aa, lena, capa, kida, Nat.zero_le _, rfl, HR, okA, XI0, O0, X0, B0, by omega, IN0⟩
  case round =>
   clear HR O0 X0 B0 IN0 z0 XI0
   obtain ⟨j, k, b, m, s, t, a, len, cap, kid, hj, rfl, HR, xok, XI1, O1, X1, B1, z1, IN1⟩ := hrel
   have XOK := hide xok
   by_cases hlt : j < l.length
   ·obtain ⟨bl', o', k', b', m', s', t', a', len', cap', kid', hbl, hx, six, hk⟩ := (unhide IN1).kid (i := j + 1) (by simp; omega)
    obtain ⟨rfl, rfl⟩ : bl = bl' ∧ o = o' := by simpa using hbl
    have hx' : l.getD j .none = VT.mk k' b' m' s' t' a' len' cap' kid' := by simpa using hx
    have hokj : (VT.mk k' b' m' s' t' a' len' cap' kid').okB 2 = true := by have := unhide HOK l[j] (by simp); rw [← getD_eq hlt, hx'] at this; exact this
    have KOK := hide hokj
    have HR' := hide (show lstV sg (l.drop (j + 1)) (if (VT.mk k' b' m' s' t' a' len' cap' kid').cmp (VT.mk k b m s t a len cap kid) * sg < 0 then (VT.mk k' b' m' s' t' a' len' cap' kid') else (VT.mk k b m s t a len cap kid)) = R by
     have := unhide HR
     rw [drop_cons' hlt, hx', lstV] at this
     exact this)
    have CM := hide (fun u h h' => rCmp_any (VT.mk k' b' m' s' t' a' len' cap' kid') (VT.mk k b m s t a len cap kid) 2 2 u hokj xok h h')
    have cb := cmp_bds (VT.mk k' b' m' s' t' a' len' cap' kid') (VT.mk k b m s t a len cap kid)
    generalize (VT.mk k' b' m' s' t' a' len' cap' kid').cmp (VT.mk k b m s t a len cap kid) = C at *
    have wr0 : IntKind.i64.wrap (C * sg) = C * sg := by
     rcases hsg with rfl | rfl
     ·exact i64_in (by omega) (by omega)
     ·exact i64_in (by omega) (by omega)
    clear cb
    have KL0 : (VT.mk k' b' m' s' t' a' len' cap' kid').Lies (fun g => g < B) := by
     have h : (l.getD j .none).Lies (fun g => g < B) := by simpa using (hin0 (j + 1) (by simp; omega)).2
     rw [hx'] at h; exact h
    have KL := hide (show (VT.mk k' b' m' s' t' a' len' cap' kid').Lies (fun q => q ≠ B + 1) from KL0.weak (fun q hq => by omega))
    have HKI := hide hk
    have SIX := hide six
    obtain ⟨s0, s1, s2, s3, s4, s5, s6⟩ := six
    obtain ⟨⟨x0, x1, x2, x3, x4, x5, x6⟩, g0, g1, g2, g3, g4, g5⟩ := id X1
    simp only [Nat.zero_add] at x1 x2 x3 x4 x5 x6
    have SK : Hid (∀ w', Below wr.heap.size wr w' → (Below wr.heap.size wr w' ∧ w'.cell? ⟨B + 1, 0, none⟩ = some (.int .i64 k) ∧ w'.cell? ⟨B + 1, 1, none⟩ = some (.bool b) ∧ w'.cell? ⟨B + 1, 2, none⟩ = some (.int .i64 m) ∧ w'.cell? ⟨B + 1, 3, none⟩ = some (.int .i64 s) ∧ w'.cell? ⟨B + 1, 4, none⟩ = some (.string t) ∧ w'.cell? ⟨B + 1, 5, none⟩ = some (.slice a len cap) ∧ w'.cell? ⟨bl, o + (j + 1) * 6, none⟩ = some (.int .i64 k') ∧ w'.cell? ⟨bl, o + (j + 1) * 6 + 1, none⟩ = some (.bool b') ∧ w'.cell? ⟨bl, o + (j + 1) * 6 + 2, none⟩ = some (.int .i64 m') ∧ w'.cell? ⟨bl, o + (j + 1) * 6 + 3, none⟩ = some (.int .i64 s') ∧ w'.cell? ⟨bl, o + (j + 1) * 6 + 4, none⟩ = some (.string t') ∧ w'.cell? ⟨bl, o + (j + 1) * 6 + 5, none⟩ = some (.slice a' len' cap'))) := hide (fun w' kk => ⟨kk, kcell kk (World.block_lt_of_cell? _ _ x1) x1, kcell kk (World.block_lt_of_cell? _ _ x2) x2, kcell kk (World.block_lt_of_cell? _ _ x3) x3, kcell kk (World.block_lt_of_cell? _ _ x4) x4, kcell kk (World.block_lt_of_cell? _ _ x5) x5, kcell kk (World.block_lt_of_cell? _ _ x6) x6, kcell kk (World.block_lt_of_cell? _ _ s1) s1, kcell kk (World.block_lt_of_cell? _ _ s2) s2, kcell kk (World.block_lt_of_cell? _ _ s3) s3, kcell kk (World.block_lt_of_cell? _ _ s4) s4, kcell kk (World.block_lt_of_cell? _ _ s5) s5, kcell kk (World.block_lt_of_cell? _ _ s6) s6⟩)
    clear KL0 hx hx' hokj xok hk hbl x0 s0
    have jl : (0 : Int) ≤ (j : Int) + 1 := by omega
    have jl2 : (j : Int) < (l.length : Int) := by omega
    have jl3 : ((j : Int) + 1).toNat = j + 1 := by omega
    by_cases hD : C * sg < 0
    ·have HR := hide (show lstV sg (l.drop (j + 1)) (VT.mk k' b' m' s' t' a' len' cap' kid') = R by have := unhide HR'; rw [if_pos hD] at this; exact this)
     clear HR'
     go_wp2_with fail
     refine wp_region_noPanic ?_
     refine wp_region_held_drew (S := fun w' => Below wr.heap.size wr w' ∧ w'.cell? ⟨B + 1, 0, none⟩ = some (.int .i64 k) ∧ w'.cell? ⟨B + 1, 1, none⟩ = some (.bool b) ∧ w'.cell? ⟨B + 1, 2, none⟩ = some (.int .i64 m) ∧ w'.cell? ⟨B + 1, 3, none⟩ = some (.int .i64 s) ∧ w'.cell? ⟨B + 1, 4, none⟩ = some (.string t) ∧ w'.cell? ⟨B + 1, 5, none⟩ = some (.slice a len cap) ∧ w'.cell? ⟨bl, o + (j + 1) * 6, none⟩ = some (.int .i64 k') ∧ w'.cell? ⟨bl, o + (j + 1) * 6 + 1, none⟩ = some (.bool b') ∧ w'.cell? ⟨bl, o + (j + 1) * 6 + 2, none⟩ = some (.int .i64 m') ∧ w'.cell? ⟨bl, o + (j + 1) * 6 + 3, none⟩ = some (.int .i64 s') ∧ w'.cell? ⟨bl, o + (j + 1) * 6 + 4, none⟩ = some (.string t') ∧ w'.cell? ⟨bl, o + (j + 1) * 6 + 5, none⟩ = some (.slice a' len' cap')) (by kernel_rfl) ?hS0a (fun hHeld => ?_)
     case hS0a => exact unhide SK _ (Below.refl _ _).drew
     have jda : Below wr.heap.size wr wr.drew := (Below.refl _ _).drew
     have HKI0a := hide ((unhide HKI).below jda)
     have XI10a := hide ((unhide XI1).below jda)
     clear jda
     generalize wr.drew = u0a at *
     refine takeC 0 (some 20) ?_
     refine takeC 1 (some 21) ?_
     refine takeC 2 (some 22) ?_
     refine takeC 3 (some 23) ?_
     refine takeC 4 (some 24) ?_
     refine takeC 6 (some 26) ?_
     refine wpAnyH_ready (rs := [5]) (by kernel_rfl) (by simp) ?_
     refine AllReadyH.cons rfl (fun K0 hK0 => ?_) AllReadyH.nil
     go_simp
     refine (unhide CM _ (unhide HKI0a) (unhide XI10a)).mono ?_
     rintro e u1a ⟨rfl, j1a⟩
     go_wp2_with fail
     refine hK0.out _ _ ?hS1a (fun hHeld1 => ?_)
     case hS1a => exact unhide SK _ (keep_call hHeld j1a)
     clear hK0 K0
     have HKI1a := hide ((unhide HKI0a).below j1a)
     have XI11a := hide ((unhide XI10a).below j1a)
     clear j1a
     clear hHeld HKI0a XI10a
     have hHeld := hHeld1
     clear hHeld1
     try simp only [Act.put, List.setIfInBounds_toArray, List.set_cons_zero, List.set_cons_succ]
     refine takeC 7 (some 27) ?_
     refine takeC 8 (some 28) ?_
     refine wpAnyH_done (by kernel_rfl) ?_ _
     refine NoPanic.normal ?_
     have k2 := hHeld.1
     clear hHeld
     have O2 := O1.below k2
     have X2 := X1.below k2
     have B2 := B1.trans (k2.mono (by omega))
     have z2 := k2.size
     have IN2 := hide ((unhide IN1).below k2)
     have XI2 := hide ((unhide XI1).below k2)
     have KIN2 := hide ((unhide HKI).below k2)
     clear O1 X1 B1 IN1 XI1 HKI
     obtain ⟨⟨y0, y1, y2, y3, y4, y5, y6⟩, g0, g1, g2, g3, g4, g5⟩ := id X2
     simp only [Nat.zero_add] at y1 y2 y3 y4 y5 y6
     have E2 := (unhide SIX).below k2
     obtain ⟨s0, s1, s2, s3, s4, s5, s6⟩ := E2
     clear k2
     go_wp2_with fail
     go_roundw
     case rel =>
      have XI3 := In_put6 (g := B + 1) (unhide KIN2) (unhide KL) (.int .i64 k') (.bool b') (.int .i64 m') (.int .i64 s') (.string t') (.slice a' len' cap')
      have IN3 := In_put6 (g := B + 1) (unhide IN2) (hin0.weak (fun q hq => by have := unhide HB; omega)) (.int .i64 k') (.bool b') (.int .i64 m') (.int .i64 s') (.string t') (.slice a' len' cap')
      refine ⟨j + 1, k', b', m', s', t', a', len', cap', kid', by omega, by go_num, HR, unhide KOK, hide XI3, Own.other O2 (show B ≠ B + 1 by omega) _ _ _ _ _ _, X2.put k' b' m' s' t' a' len' cap', set6 B2 (by omega) _ _ _ _ _ _, by simp [World.setCell]; omega, hide IN3⟩
     case measure => simp [intOf]; omega
    ·have HR := hide (show lstV sg (l.drop (j + 1)) (VT.mk k b m s t a len cap kid) = R by have := unhide HR'; rw [if_neg hD] at this; exact this)
     clear HR'
     go_wp2_with fail
     refine wp_region_noPanic ?_
     refine wp_region_held_drew (S := fun w' => Below wr.heap.size wr w' ∧ w'.cell? ⟨B + 1, 0, none⟩ = some (.int .i64 k) ∧ w'.cell? ⟨B + 1, 1, none⟩ = some (.bool b) ∧ w'.cell? ⟨B + 1, 2, none⟩ = some (.int .i64 m) ∧ w'.cell? ⟨B + 1, 3, none⟩ = some (.int .i64 s) ∧ w'.cell? ⟨B + 1, 4, none⟩ = some (.string t) ∧ w'.cell? ⟨B + 1, 5, none⟩ = some (.slice a len cap) ∧ w'.cell? ⟨bl, o + (j + 1) * 6, none⟩ = some (.int .i64 k') ∧ w'.cell? ⟨bl, o + (j + 1) * 6 + 1, none⟩ = some (.bool b') ∧ w'.cell? ⟨bl, o + (j + 1) * 6 + 2, none⟩ = some (.int .i64 m') ∧ w'.cell? ⟨bl, o + (j + 1) * 6 + 3, none⟩ = some (.int .i64 s') ∧ w'.cell? ⟨bl, o + (j + 1) * 6 + 4, none⟩ = some (.string t') ∧ w'.cell? ⟨bl, o + (j + 1) * 6 + 5, none⟩ = some (.slice a' len' cap')) (by kernel_rfl) ?hS0b (fun hHeld => ?_)
     case hS0b => exact unhide SK _ (Below.refl _ _).drew
     have jdb : Below wr.heap.size wr wr.drew := (Below.refl _ _).drew
     have HKI0b := hide ((unhide HKI).below jdb)
     have XI10b := hide ((unhide XI1).below jdb)
     clear jdb
     generalize wr.drew = u0b at *
     refine takeC 0 (some 20) ?_
     refine takeC 1 (some 21) ?_
     refine takeC 2 (some 22) ?_
     refine takeC 3 (some 23) ?_
     refine takeC 4 (some 24) ?_
     refine takeC 6 (some 26) ?_
     refine wpAnyH_ready (rs := [5]) (by kernel_rfl) (by simp) ?_
     refine AllReadyH.cons rfl (fun K0 hK0 => ?_) AllReadyH.nil
     go_simp
     refine (unhide CM _ (unhide HKI0b) (unhide XI10b)).mono ?_
     rintro e u1b ⟨rfl, j1b⟩
     go_wp2_with fail
     refine hK0.out _ _ ?hS1b (fun hHeld1 => ?_)
     case hS1b => exact unhide SK _ (keep_call hHeld j1b)
     clear hK0 K0
     have HKI1b := hide ((unhide HKI0b).below j1b)
     have XI11b := hide ((unhide XI10b).below j1b)
     clear j1b
     clear hHeld HKI0b XI10b
     have hHeld := hHeld1
     clear hHeld1
     try simp only [Act.put, List.setIfInBounds_toArray, List.set_cons_zero, List.set_cons_succ]
     refine takeC 7 (some 27) ?_
     refine takeC 8 (some 28) ?_
     refine wpAnyH_done (by kernel_rfl) ?_ _
     refine NoPanic.normal ?_
     have k2 := hHeld.1
     clear hHeld
     have O2 := O1.below k2
     have X2 := X1.below k2
     have B2 := B1.trans (k2.mono (by omega))
     have z2 := k2.size
     have IN2 := hide ((unhide IN1).below k2)
     have XI2 := hide ((unhide XI1).below k2)
     clear O1 X1 B1 IN1 XI1 HKI
     go_wp2_with fail
     go_roundw
     case rel => exact ⟨j + 1, k, b, m, s, t, a, len, cap, kid, by omega, by go_num, HR, unhide XOK, XI2, O2, X2, B2, by omega, IN2⟩
     case measure => simp [intOf]; omega
   ·have HR2 := hide (show R = VT.mk k b m s t a len cap kid by have := unhide HR; rw [List.drop_of_length_le (by omega)] at this; exact this.symm)
    clear HR IN1
    obtain ⟨⟨x0, x1, x2, x3, x4, x5, x6⟩, g0, g1, g2, g3, g4, g5⟩ := id X1
    obtain ⟨⟨u0, t0, t1, t2, t3, t4, t5⟩, f0, f1, f2, f3, f4, f5⟩ := id O1
    simp only [Nat.zero_add] at t0 t1 t2 t3 t4 t5 x1 x2 x3 x4 x5 x6
    go_wp2_with fail
    refine bodyPost_ret (v := .agg #[.int .i64 k, .bool b, .int .i64 m, .int .i64 s, .string t, .slice a len cap]) (by simp [results, Tryz.results94, go_sem, t0, t1, t2, t3, t4, t5]) rfl ⟨by rw [unhide HR2]; rfl, ?_⟩
    rw [unhide HB]
    exact zBL
end
end Go.Proofs.YtfdimdjmnfdecaaGreat

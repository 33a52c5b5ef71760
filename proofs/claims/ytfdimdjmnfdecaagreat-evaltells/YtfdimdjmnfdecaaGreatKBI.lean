/- RE9: laid together. -/
import Derived.Test.YtfdimdjmnfdecaaGreatKBH
set_option linter.unusedVariables false
set_option linter.unusedSimpArgs false
set_option maxHeartbeats 8000000
namespace Go.Proofs.YtfdimdjmnfdecaaGreat
open Go.RowKit
open VT (leaf mkV)
set_option maxRecDepth 10000 in
theorem rsum_any (a : Option Addr) (cap : Nat) (l : List VT) (w : World) (hin : (rowT a cap l).In w) (hok : ∀ v ∈ l, isB (mOf v) (sOf v) = true) :
  Calls Tryz.prog 95 #[.slice a l.length cap] w fun e w' => e = .returned (Tup (sumT l (0, 0))) ∧ Below w.heap.size w w' := by
 have hlm : l.length ≤ maxLen := by have := hin.1; omega
 unfold maxLen at hlm
 generalize hR : sumT l (0, 0) = R
 have HR : Hid (sumT (l.drop 0) (0, 0) = R) := by rw [List.drop_zero]; exact hR
 clear hR
 have BT := boxD w 0 0
 have hin0 := hin.lies
 have HOK := hide hok
 have hin1 := hin.below BT.2.2.1
 clear hin hok
 go_enter Tryz.func95, Tryz.ntmps95
 go_wp2_with fail
 generalize ((w.alloc (Obj.cells #[.int .i64 0, .bool false, .int .i64 0, .int .i64 0, .string ⟨#[]⟩, .slice none 0 0] 32)).alloc (Obj.cells #[.int .i64 0, .int .i64 0] 23)) = V at *
 obtain ⟨O0, D0, B0, z0⟩ := BT
 generalize hB : w.heap.size = B at *
 have HB := hide hB
 clear hB
 go_loopw [5] (fun i wr => ∃ (j : Nat) (m s : Int), j ≤ l.length ∧ i = .int .i64 j ∧ isB m s = true ∧ Hid (sumT (l.drop j) (m, s) = R) ∧ Own wr B ∧ OwnD wr (B + 1) m s ∧ Below B w wr ∧ B + 2 ≤ wr.heap.size ∧ Hid ((rowT a cap l).In wr)) (fun i _ => l.length - (intOf i).toNat)
 case atStart => exact ⟨0, 0, 0, Nat.zero_le _, rfl, rfl, HR, O0, D0, B0, by omega, hide hin1⟩
 case round =>
  clear HR O0 D0 B0 hin1 z0
  obtain ⟨j, m, s, hj, rfl, his, HR, O1, D1, B1, z1, IN1⟩ := hrel
  by_cases hlt : j < l.length
  ·obtain ⟨bl, o, k', b', m', s', t', a', len', cap', kid', rfl, hx, six, hk⟩ := (unhide IN1).kid hlt
   try dsimp only at hx
   have hokj : isB m' s' = true := by have := unhide HOK _ (List.getElem_mem hlt); rw [← getD_eq hlt, hx] at this; exact this
   have HR' := hide (show sumT ((l.drop (j + 1))) (fitM (upM m s (max s s') + upM m' s' (max s s')) (max s s'), fitS (upM m s (max s s') + upM m' s' (max s s')) (max s s')) = R ∨ fitE (upM m s (max s s') + upM m' s' (max s s')) (max s s') ≠ 0 by
    by_cases hE : fitE (upM m s (max s s') + upM m' s' (max s s')) (max s s') = 0
    ·left
     have := unhide HR
     rw [drop_cons' hlt, hx, sumT] at this
     simpa [mOf, sOf, hE] using this
    ·exact .inr hE)
   have HE' := hide (show fitE (upM m s (max s s') + upM m' s' (max s s')) (max s s') ≠ 0 → R = (nilV, fitE (upM m s (max s s') + upM m' s' (max s s')) (max s s')) from fun hE => by
     have := unhide HR
     rw [drop_cons' hlt, hx, sumT] at this
     rw [← this]
     simp [mOf, sOf, hE])
   have FI := hide (fun h => fit_is (upM m s (max s s') + upM m' s' (max s s')) (max s s') h)
   have AD := hide (fun w => radd_eqE m s m' s' w his hokj)
   obtain ⟨s0, s1, s2, s3, s4, s5, s6⟩ := six
   obtain ⟨d0, d1, d2, d3, d4⟩ := id D1
   have SK : Hid (∀ w', Below wr.heap.size wr w' → (Below wr.heap.size wr w' ∧ w'.cell? ⟨B + 1, 0, none⟩ = some (.int .i64 m) ∧ w'.cell? ⟨B + 1, 1, none⟩ = some (.int .i64 s) ∧ w'.cell? ⟨bl, o + j * 6 + 2, none⟩ = some (.int .i64 m') ∧ w'.cell? ⟨bl, o + j * 6 + 3, none⟩ = some (.int .i64 s'))) := hide (fun w' kk => ⟨kk, kcell kk (World.block_lt_of_cell? _ _ d1) d1, kcell kk (World.block_lt_of_cell? _ _ d2) d2, kcell kk (World.block_lt_of_cell? _ _ s3) s3, kcell kk (World.block_lt_of_cell? _ _ s4) s4⟩)
   clear HR hk hx his hokj s0 d0
   generalize fitM (upM m s (max s s') + upM m' s' (max s s')) (max s s') = M at *
   generalize fitS (upM m s (max s s') + upM m' s' (max s s')) (max s s') = S at *
   generalize fitE (upM m s (max s s') + upM m' s' (max s s')) (max s s') = E at *
   by_cases hE : E = 0
   ·subst hE
    go_wp2_with fail
    refine wp_region_noPanic ?_
    refine wp_region_held_drew (S := fun w' => Below wr.heap.size wr w' ∧ w'.cell? ⟨B + 1, 0, none⟩ = some (.int .i64 m) ∧ w'.cell? ⟨B + 1, 1, none⟩ = some (.int .i64 s) ∧ w'.cell? ⟨bl, o + j * 6 + 2, none⟩ = some (.int .i64 m') ∧ w'.cell? ⟨bl, o + j * 6 + 3, none⟩ = some (.int .i64 s')) (by kernel_rfl) ?hS0a (fun hHeld => ?_)
    case hS0a => exact unhide SK _ (Below.refl _ _).drew
    have jda : Below wr.heap.size wr wr.drew := (Below.refl _ _).drew
    clear jda
    generalize wr.drew = u0a at *
    refine takeC 0 (some 16) ?_
    refine takeC 1 (some 17) ?_
    refine takeC 2 (some 18) ?_
    refine takeC 3 (some 19) ?_
    refine takeC 4 (some 20) ?_
    refine takeC 5 (some 21) ?_
    refine wpAnyH_ready (rs := [6, 10]) (by kernel_rfl) (by simp) ?_
    refine AllReadyH.cons rfl (fun K0 hK0 => ?_) (AllReadyH.cons rfl (fun K0 hK0 => ?_) AllReadyH.nil)
    ·skip
     go_simp
     refine (unhide AD _).mono ?_
     rintro e u1a ⟨rfl, j1a⟩
     go_wp2_with fail
     refine hK0.out _ _ ?hS1a (fun hHeld1 => ?_)
     case hS1a => exact unhide SK _ (keep_call hHeld j1a)
     clear hK0 K0
     clear j1a
     clear hHeld 
     have hHeld := hHeld1
     clear hHeld1
     try simp only [Act.put, List.setIfInBounds_toArray, List.set_cons_zero, List.set_cons_succ]
     refine takeC 7 (some 15) ?_
     refine takeC 8 (some 23) ?_
     refine takeC 9 (some 24) ?_
     refine wpAnyH_ready (rs := [10]) (by kernel_rfl) (by simp) ?_
     refine AllReadyH.cons rfl (fun K0 hK0 => ?_) AllReadyH.nil
     go_simp
     refine hK0.out _ _ ?hS2a (fun hHeld1 => ?_)
     case hS2a => exact unhide SK _ (keep_alloc hHeld _)
     clear hK0 K0
     have j2a := below1 u1a (Obj.cells #[.int .i64 0, .int .i64 0] 23)
     have z2a : wr.heap.size ≤ u1a.heap.size := hHeld.1.size
     have XD2a := hide (OwnD.new u1a 0 0 23)
     generalize u1a.alloc (Obj.cells #[.int .i64 0, .int .i64 0] 23) = u2a at *
     generalize u1a.heap.size = g2a at *
     clear j2a
     clear hHeld 
     have hHeld := hHeld1
     clear hHeld1
     try simp only [Act.put, List.setIfInBounds_toArray, List.set_cons_zero, List.set_cons_succ]
     refine wpAnyH_ready (rs := [11]) (by kernel_rfl) (by simp) ?_
     refine AllReadyH.cons rfl (fun K0 hK0 => ?_) AllReadyH.nil
     obtain ⟨q0, q1, q2, q3, q4⟩ := id (unhide XD2a)
     go_simp
     clear q0 q1 q2 q3 q4
     refine hK0.out _ _ ?hS3a (fun hHeld1 => ?_)
     case hS3a => exact unhide SK _ ((hHeld.1.setCell (by omega) _).setCell (by omega) _)
     clear hK0 K0
     have XD3a := hide ((unhide XD2a).put (M) (S))
     generalize ((u2a.setCell ⟨g2a, 0, none⟩ (.int .i64 (M))).setCell ⟨g2a, 1, none⟩ (.int .i64 (S))) = u3a at *
     clear hHeld XD2a
     have hHeld := hHeld1
     clear hHeld1
     try simp only [Act.put, List.setIfInBounds_toArray, List.set_cons_zero, List.set_cons_succ]
     refine takeC 12 (some 7) ?_
     refine wpAnyH_done (by kernel_rfl) ?_ _
     refine NoPanic.normal ?_
     have k2 := hHeld.1
     clear hHeld
     have O2 := O1.below k2
     have D2 := D1.below k2
     have B2 := B1.trans (k2.mono (by omega))
     have z2 := k2.size
     have IN2 := hide ((unhide IN1).below k2)
     have XD := unhide XD3a
     clear O1 D1 B1 IN1
     obtain ⟨q0, q1, q2, q3, q4⟩ := id XD
     obtain ⟨d0, d1, d2, d3, d4⟩ := id D2
     go_wp2_with fail
     go_roundw
     case rel =>
      refine ⟨j + 1, M, S, by omega, by go_num, unhide FI (by first | rfl | trivial), hide ((unhide HR').resolve_right (fun h => h rfl)), putD_own O2 (show B ≠ B + 1 by omega) (.int .i64 M) (.int .i64 S), D2.put M S, putD_below B2 (show B ≤ B + 1 by omega) (.int .i64 M) (.int .i64 S), by simp [World.setCell]; omega, hide (In_putD (g := B + 1) (unhide IN2) (hin0.weak (fun q hq => by have := unhide HB; omega)) (.int .i64 M) (.int .i64 S))⟩
     case measure => simp [intOf]; omega
    ·skip
     go_simp
     refine hK0.out _ _ ?hS4a (fun hHeld1 => ?_)
     case hS4a => exact unhide SK _ (keep_alloc hHeld _)
     clear hK0 K0
     have j4a := below1 u0a (Obj.cells #[.int .i64 0, .int .i64 0] 23)
     have z4a : wr.heap.size ≤ u0a.heap.size := hHeld.1.size
     have XD4a := hide (OwnD.new u0a 0 0 23)
     generalize u0a.alloc (Obj.cells #[.int .i64 0, .int .i64 0] 23) = u4a at *
     generalize u0a.heap.size = g4a at *
     clear j4a
     clear hHeld 
     have hHeld := hHeld1
     clear hHeld1
     try simp only [Act.put, List.setIfInBounds_toArray, List.set_cons_zero, List.set_cons_succ]
     refine wpAnyH_ready (rs := [6]) (by kernel_rfl) (by simp) ?_
     refine AllReadyH.cons rfl (fun K0 hK0 => ?_) AllReadyH.nil
     go_simp
     refine (unhide AD _).mono ?_
     rintro e u5a ⟨rfl, j5a⟩
     go_wp2_with fail
     refine hK0.out _ _ ?hS5a (fun hHeld1 => ?_)
     case hS5a => exact unhide SK _ (keep_call hHeld j5a)
     clear hK0 K0
     have XD5a := hide ((unhide XD4a).below j5a)
     clear j5a
     clear hHeld XD4a
     have hHeld := hHeld1
     clear hHeld1
     try simp only [Act.put, List.setIfInBounds_toArray, List.set_cons_zero, List.set_cons_succ]
     refine takeC 7 (some 15) ?_
     refine takeC 8 (some 23) ?_
     refine takeC 9 (some 24) ?_
     refine wpAnyH_ready (rs := [11]) (by kernel_rfl) (by simp) ?_
     refine AllReadyH.cons rfl (fun K0 hK0 => ?_) AllReadyH.nil
     obtain ⟨q0, q1, q2, q3, q4⟩ := id (unhide XD5a)
     go_simp
     clear q0 q1 q2 q3 q4
     refine hK0.out _ _ ?hS6a (fun hHeld1 => ?_)
     case hS6a => exact unhide SK _ ((hHeld.1.setCell (by omega) _).setCell (by omega) _)
     clear hK0 K0
     have XD6a := hide ((unhide XD5a).put (M) (S))
     generalize ((u5a.setCell ⟨g4a, 0, none⟩ (.int .i64 (M))).setCell ⟨g4a, 1, none⟩ (.int .i64 (S))) = u6a at *
     clear hHeld XD5a
     have hHeld := hHeld1
     clear hHeld1
     try simp only [Act.put, List.setIfInBounds_toArray, List.set_cons_zero, List.set_cons_succ]
     refine takeC 12 (some 7) ?_
     refine wpAnyH_done (by kernel_rfl) ?_ _
     refine NoPanic.normal ?_
     have k2 := hHeld.1
     clear hHeld
     have O2 := O1.below k2
     have D2 := D1.below k2
     have B2 := B1.trans (k2.mono (by omega))
     have z2 := k2.size
     have IN2 := hide ((unhide IN1).below k2)
     have XD := unhide XD6a
     clear O1 D1 B1 IN1
     obtain ⟨q0, q1, q2, q3, q4⟩ := id XD
     obtain ⟨d0, d1, d2, d3, d4⟩ := id D2
     go_wp2_with fail
     go_roundw
     case rel =>
      refine ⟨j + 1, M, S, by omega, by go_num, unhide FI (by first | rfl | trivial), hide ((unhide HR').resolve_right (fun h => h rfl)), putD_own O2 (show B ≠ B + 1 by omega) (.int .i64 M) (.int .i64 S), D2.put M S, putD_below B2 (show B ≤ B + 1 by omega) (.int .i64 M) (.int .i64 S), by simp [World.setCell]; omega, hide (In_putD (g := B + 1) (unhide IN2) (hin0.weak (fun q hq => by have := unhide HB; omega)) (.int .i64 M) (.int .i64 S))⟩
     case measure => simp [intOf]; omega
   ·have e1 : (E != 0) = true := by simpa using hE
    have HE2 := hide (unhide HE' hE)
    clear hE HE' HR' FI
    go_wp2_with fail
    refine wp_region_noPanic ?_
    refine wp_region_held_drew (S := fun w' => Below wr.heap.size wr w' ∧ w'.cell? ⟨B + 1, 0, none⟩ = some (.int .i64 m) ∧ w'.cell? ⟨B + 1, 1, none⟩ = some (.int .i64 s) ∧ w'.cell? ⟨bl, o + j * 6 + 2, none⟩ = some (.int .i64 m') ∧ w'.cell? ⟨bl, o + j * 6 + 3, none⟩ = some (.int .i64 s')) (by kernel_rfl) ?hS0b (fun hHeld => ?_)
    case hS0b => exact unhide SK _ (Below.refl _ _).drew
    have jdb : Below wr.heap.size wr wr.drew := (Below.refl _ _).drew
    clear jdb
    generalize wr.drew = u0b at *
    refine takeC 0 (some 16) ?_
    refine takeC 1 (some 17) ?_
    refine takeC 2 (some 18) ?_
    refine takeC 3 (some 19) ?_
    refine takeC 4 (some 20) ?_
    refine takeC 5 (some 21) ?_
    refine wpAnyH_ready (rs := [6, 10]) (by kernel_rfl) (by simp) ?_
    refine AllReadyH.cons rfl (fun K0 hK0 => ?_) (AllReadyH.cons rfl (fun K0 hK0 => ?_) AllReadyH.nil)
    ·skip
     go_simp
     refine (unhide AD _).mono ?_
     rintro e u1b ⟨rfl, j1b⟩
     go_wp2_with fail
     refine hK0.out _ _ ?hS1b (fun hHeld1 => ?_)
     case hS1b => exact unhide SK _ (keep_call hHeld j1b)
     clear hK0 K0
     clear j1b
     clear hHeld 
     have hHeld := hHeld1
     clear hHeld1
     try simp only [Act.put, List.setIfInBounds_toArray, List.set_cons_zero, List.set_cons_succ]
     refine takeC 7 (some 15) ?_
     refine takeC 8 (some 23) ?_
     refine takeC 9 (some 24) ?_
     refine wpAnyH_ready (rs := [10]) (by kernel_rfl) (by simp) ?_
     refine AllReadyH.cons rfl (fun K0 hK0 => ?_) AllReadyH.nil
     go_simp
     refine hK0.out _ _ ?hS2b (fun hHeld1 => ?_)
     case hS2b => exact unhide SK _ (keep_alloc hHeld _)
     clear hK0 K0
     have j2b := below1 u1b (Obj.cells #[.int .i64 0, .int .i64 0] 23)
     have z2b : wr.heap.size ≤ u1b.heap.size := hHeld.1.size
     have XD2b := hide (OwnD.new u1b 0 0 23)
     generalize u1b.alloc (Obj.cells #[.int .i64 0, .int .i64 0] 23) = u2b at *
     generalize u1b.heap.size = g2b at *
     clear j2b
     clear hHeld 
     have hHeld := hHeld1
     clear hHeld1
     try simp only [Act.put, List.setIfInBounds_toArray, List.set_cons_zero, List.set_cons_succ]
     refine wpAnyH_ready (rs := [11]) (by kernel_rfl) (by simp) ?_
     refine AllReadyH.cons rfl (fun K0 hK0 => ?_) AllReadyH.nil
     obtain ⟨q0, q1, q2, q3, q4⟩ := id (unhide XD2b)
     go_simp
     clear q0 q1 q2 q3 q4
     refine hK0.out _ _ ?hS3b (fun hHeld1 => ?_)
     case hS3b => exact unhide SK _ ((hHeld.1.setCell (by omega) _).setCell (by omega) _)
     clear hK0 K0
     have XD3b := hide ((unhide XD2b).put (M) (S))
     generalize ((u2b.setCell ⟨g2b, 0, none⟩ (.int .i64 (M))).setCell ⟨g2b, 1, none⟩ (.int .i64 (S))) = u3b at *
     clear hHeld XD2b
     have hHeld := hHeld1
     clear hHeld1
     try simp only [Act.put, List.setIfInBounds_toArray, List.set_cons_zero, List.set_cons_succ]
     refine takeC 12 (some 7) ?_
     refine wpAnyH_done (by kernel_rfl) ?_ _
     refine NoPanic.normal ?_
     have k2 := hHeld.1
     clear hHeld
     have O2 := O1.below k2
     have D2 := D1.below k2
     have B2 := B1.trans (k2.mono (by omega))
     have z2 := k2.size
     have IN2 := hide ((unhide IN1).below k2)
     have XD := unhide XD3b
     clear O1 D1 B1 IN1
     obtain ⟨q0, q1, q2, q3, q4⟩ := id XD
     obtain ⟨u0, t0, t1, t2, t3, t4, t5, f0, f1, f2, f3, f4, f5⟩ := Own.fl O2
     go_wp2_with fail
     refine bodyPost_ret (v := .tuple #[lfv 0 false 0 0 ⟨#[]⟩, .int .i64 E]) zR95lt0t1t2t3t4t5 rfl ⟨by rw [unhide HE2]; rfl, ?_⟩
     rw [unhide HB]
     exact zBL
    ·skip
     go_simp
     refine hK0.out _ _ ?hS4b (fun hHeld1 => ?_)
     case hS4b => exact unhide SK _ (keep_alloc hHeld _)
     clear hK0 K0
     have j4b := below1 u0b (Obj.cells #[.int .i64 0, .int .i64 0] 23)
     have z4b : wr.heap.size ≤ u0b.heap.size := hHeld.1.size
     have XD4b := hide (OwnD.new u0b 0 0 23)
     generalize u0b.alloc (Obj.cells #[.int .i64 0, .int .i64 0] 23) = u4b at *
     generalize u0b.heap.size = g4b at *
     clear j4b
     clear hHeld 
     have hHeld := hHeld1
     clear hHeld1
     try simp only [Act.put, List.setIfInBounds_toArray, List.set_cons_zero, List.set_cons_succ]
     refine wpAnyH_ready (rs := [6]) (by kernel_rfl) (by simp) ?_
     refine AllReadyH.cons rfl (fun K0 hK0 => ?_) AllReadyH.nil
     go_simp
     refine (unhide AD _).mono ?_
     rintro e u5b ⟨rfl, j5b⟩
     go_wp2_with fail
     refine hK0.out _ _ ?hS5b (fun hHeld1 => ?_)
     case hS5b => exact unhide SK _ (keep_call hHeld j5b)
     clear hK0 K0
     have XD5b := hide ((unhide XD4b).below j5b)
     clear j5b
     clear hHeld XD4b
     have hHeld := hHeld1
     clear hHeld1
     try simp only [Act.put, List.setIfInBounds_toArray, List.set_cons_zero, List.set_cons_succ]
     refine takeC 7 (some 15) ?_
     refine takeC 8 (some 23) ?_
     refine takeC 9 (some 24) ?_
     refine wpAnyH_ready (rs := [11]) (by kernel_rfl) (by simp) ?_
     refine AllReadyH.cons rfl (fun K0 hK0 => ?_) AllReadyH.nil
     obtain ⟨q0, q1, q2, q3, q4⟩ := id (unhide XD5b)
     go_simp
     clear q0 q1 q2 q3 q4
     refine hK0.out _ _ ?hS6b (fun hHeld1 => ?_)
     case hS6b => exact unhide SK _ ((hHeld.1.setCell (by omega) _).setCell (by omega) _)
     clear hK0 K0
     have XD6b := hide ((unhide XD5b).put (M) (S))
     generalize ((u5b.setCell ⟨g4b, 0, none⟩ (.int .i64 (M))).setCell ⟨g4b, 1, none⟩ (.int .i64 (S))) = u6b at *
     clear hHeld XD5b
     have hHeld := hHeld1
     clear hHeld1
     try simp only [Act.put, List.setIfInBounds_toArray, List.set_cons_zero, List.set_cons_succ]
     refine takeC 12 (some 7) ?_
     refine wpAnyH_done (by kernel_rfl) ?_ _
     refine NoPanic.normal ?_
     have k2 := hHeld.1
     clear hHeld
     have O2 := O1.below k2
     have D2 := D1.below k2
     have B2 := B1.trans (k2.mono (by omega))
     have z2 := k2.size
     have IN2 := hide ((unhide IN1).below k2)
     have XD := unhide XD6b
     clear O1 D1 B1 IN1
     obtain ⟨q0, q1, q2, q3, q4⟩ := id XD
     obtain ⟨u0, t0, t1, t2, t3, t4, t5, f0, f1, f2, f3, f4, f5⟩ := Own.fl O2
     go_wp2_with fail
     refine bodyPost_ret (v := .tuple #[lfv 0 false 0 0 ⟨#[]⟩, .int .i64 E]) zR95lt0t1t2t3t4t5 rfl ⟨by rw [unhide HE2]; rfl, ?_⟩
     rw [unhide HB]
     exact zBL
  ·have HR2 := hide (show R = (numV m s, 0) by have := unhide HR; rw [List.drop_of_length_le (by omega)] at this; exact this.symm)
   clear HR IN1
   obtain ⟨d0, d1, d2, d3, d4⟩ := id D1
   go_wp2_with fail
   refine (rnumE_any _ _ _ _).mono ?_
   rintro e w3 ⟨rfl, k3⟩
   unfold recT
   rw [if_pos rfl]
   unfold Tup numV leaf
   dsimp only [VT.val]
   have O4 := O1.below k3
   have B4 := B1.trans (k3.mono (by omega))
   clear k3 O1 B1 D1
   obtain ⟨u0, t0, t1, t2, t3, t4, t5, f0, f1, f2, f3, f4, f5⟩ := Own.fl O4
   go_wp2_with fail
   refine bodyPost_ret (v := .tuple #[lfv 2 false m s ⟨#[]⟩, .int .i64 0]) zR95lt0t1t2t3t4t5 rfl ⟨by rw [unhide HR2]; rfl, ?_⟩
   rw [unhide HB]
   exact zBL
end Go.Proofs.YtfdimdjmnfdecaaGreat

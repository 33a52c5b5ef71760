/- EWith: laid together. -/
import Derived.Test.YtfdimdjmnfdecaaGreatKAL
set_option linter.unusedVariables false
set_option linter.unusedSimpArgs false
set_option maxHeartbeats 8000000
namespace Go.Proofs.YtfdimdjmnfdecaaGreat
open Go.RowKit
open VT (leaf mkV)
attribute [local go_sem ↓] Go.wp_at_zero Go.wp_at_succ
theorem and_leaf (k : Int) (b : Bool) (m s : Int) (t : ByteArray) (k' : Int) (b' : Bool) (m' s' : Int) (t' : ByteArray) : (andV (leaf k b m s t) (leaf k' b' m' s' t')).val = tval (andK (unB k b) (unB k' b') (trB k b) (trB k' b')) (andB (unB k b) (unB k' b') (trB k b) (trB k' b')) := rfl
theorem with_yy (bl o cap : Nat) (x y z : VT) (w : World) (hx : x.okB 2 = true) (hy : y.okB 2 = true) (hz : z.okB 2 = true) (hin : (rowT (some ⟨bl, o, none⟩) cap [x, y, z]).In w) :
  Calls Tryz.prog 55 #[.bool true, .bool true, .slice (some ⟨bl, o, none⟩) 3 cap] w fun e w' => e = .returned (inT true true x y z).val ∧ Below w.heap.size w w' := by
 obtain ⟨bl1, o1, k, b, m, s, t, a1, len, cap1, kid, hbl1, hx1, six1, hk1⟩ := hin.kid (i := 0) (by simp)
 obtain ⟨bl2, o2, k', b', m', s', t', a', len', cap', kid', hbl2, hx2, six2, hk2⟩ := hin.kid (i := 1) (by simp)
 obtain ⟨bl3, o3, k3, b3, m3, s3, t3, a3, len3, cap3, kid3, hbl3, hx3, six3, hk3⟩ := hin.kid (i := 2) (by simp)
 obtain ⟨rfl, rfl⟩ : bl = bl1 ∧ o = o1 := by simpa using hbl1
 obtain ⟨rfl, rfl⟩ : bl = bl2 ∧ o = o2 := by simpa using hbl2
 obtain ⟨rfl, rfl⟩ : bl = bl3 ∧ o = o3 := by simpa using hbl3
 obtain rfl : x = (VT.mk k b m s t a1 len cap1 kid) := by simpa using hx1
 obtain rfl : y = (VT.mk k' b' m' s' t' a' len' cap' kid') := by simpa using hx2
 obtain rfl : z = (VT.mk k3 b3 m3 s3 t3 a3 len3 cap3 kid3) := by simpa using hx3
 rw [show o + 0 * 6 = o by omega] at six1
 rw [show o + 1 * 6 = o + 6 by omega] at six2
 rw [show o + 2 * 6 = o + 12 by omega] at six3
 have b0 := bZ w
 have JX := hide (hk1.below b0)
 have JY := hide (hk2.below b0)
 have JZ := hide (hk3.below b0)
 have Q0 := six1.below b0
 have Q1 := six2.below b0
 have Q2 := six3.below b0
 have O0 := Own.new w 32
 have R1 := fun w h h' => rel_any [62, 61] (VT.mk k b m s t a1 len cap1 kid) (VT.mk k' b' m' s' t' a' len' cap' kid') w hx hy h h'
 have R2 := fun w h h' => rel_any [60, 61] (VT.mk k b m s t a1 len cap1 kid) (VT.mk k3 b3 m3 s3 t3 a3 len3 cap3 kid3) w hx hz h h'
 obtain ⟨KP, BP, MP, SP, TP, eP⟩ := lf_rel [62, 61] (VT.mk k b m s t a1 len cap1 kid) (VT.mk k' b' m' s' t' a' len' cap' kid')
 obtain ⟨KQ, BQ, MQ, SQ, TQ, eQ⟩ := lf_rel [60, 61] (VT.mk k b m s t a1 len cap1 kid) (VT.mk k3 b3 m3 s3 t3 a3 len3 cap3 kid3)
 have EI : (inT true true (VT.mk k b m s t a1 len cap1 kid) (VT.mk k' b' m' s' t' a' len' cap' kid') (VT.mk k3 b3 m3 s3 t3 a3 len3 cap3 kid3)).val = tval (andK (unB KP BP) (unB KQ BQ) (trB KP BP) (trB KQ BQ)) (andB (unB KP BP) (unB KQ BQ) (trB KP BP) (trB KQ BQ)) := by
  show (andV (relT [62, 61] (VT.mk k b m s t a1 len cap1 kid) (VT.mk k' b' m' s' t' a' len' cap' kid')) (relT [60, 61] (VT.mk k b m s t a1 len cap1 kid) (VT.mk k3 b3 m3 s3 t3 a3 len3 cap3 kid3))).val = _
  rw [eP, eQ, and_leaf]
 rw [eP] at R1
 rw [eQ] at R2
 rw [EI]
 have HR1 := hide R1
 have HR2 := hide R2
 have hz : (w.alloc (Obj.cells #[.int .i64 0, .bool false, .int .i64 0, .int .i64 0, .string ⟨#[]⟩, .slice none 0 0] 32)).heap.size = w.heap.size + 1 := by simp
 have hbw : bl < w.heap.size := six1.1
 have AV := hide (fun w => and_any KP BP MP SP TP none 0 0 KQ BQ MQ SQ TQ none 0 0 w)
 generalize andK (unB KP BP) (unB KQ BQ) (trB KP BP) (trB KQ BQ) = RK at *
 generalize andB (unB KP BP) (unB KQ BQ) (trB KP BP) (trB KQ BQ) = RB at *
 clear R1 R2 EI eP eQ hx hy hin hbl1 hbl2 hbl3 hx1 hx2 hx3 hk1 hk2 hk3 six1 six2 six3
 go_enter Tryz.func55, Tryz.ntmps55
 go_wp2_with fail
 generalize w.alloc (Obj.cells #[.int .i64 0, .bool false, .int .i64 0, .int .i64 0, .string ⟨#[]⟩, .slice none 0 0] 32) = V at *
 have QB := b0
 have SK : Hid (∀ w', Below V.heap.size V w' → (Below w.heap.size w w' ∧ VT.Six w' bl (o) k b m s t a1 len cap1 ∧ VT.Six w' bl (o + 6) k' b' m' s' t' a' len' cap' ∧ VT.Six w' bl (o + 12) k3 b3 m3 s3 t3 a3 len3 cap3)) := hide (fun w' kk => ⟨QB.trans (kk.mono (by omega)), VT.Six.below Q0 kk, VT.Six.below Q1 kk, VT.Six.below Q2 kk⟩)
 refine wp_region_noPanic ?_
 refine wp_region_held_drew (S := fun w' => Below w.heap.size w w' ∧ VT.Six w' bl (o) k b m s t a1 len cap1 ∧ VT.Six w' bl (o + 6) k' b' m' s' t' a' len' cap' ∧ VT.Six w' bl (o + 12) k3 b3 m3 s3 t3 a3 len3 cap3) (by kernel_rfl) ?hS0 (fun hHeld => ?_)
 case hS0 => exact unhide SK _ (Below.refl _ _).drew
 refine takeAt 0 (some 11) ?pv0 ⟨_, rfl, rfl, rfl, ?py0⟩ (by kernel_rfl) (by kernel_rfl) (by kernel_rfl) (fun _ _ _ h => h) (by assumption) ?_
 case py0 => (intro w0 hSw; obtain ⟨_, ⟨g00, g01, g02, g03, g04, g05, g06⟩, ⟨g10, g11, g12, g13, g14, g15, g16⟩, ⟨g20, g21, g22, g23, g24, g25, g26⟩⟩ := hSw; (try simp only [Nat.zero_add] at g01 g02 g03 g04 g05 g06 g11 g12 g13 g14 g15 g16 g21 g22 g23 g24 g25 g26); go_simp; try (with_reducible rfl))
 simp only [Act.put, List.setIfInBounds_toArray, List.set_cons_zero, List.set_cons_succ]
 refine takeAt 1 (some 12) ?pv1 ⟨_, rfl, rfl, rfl, ?py1⟩ (by kernel_rfl) (by kernel_rfl) (by kernel_rfl) (fun _ _ _ h => h) (by assumption) ?_
 case py1 => (intro w0 hSw; obtain ⟨_, ⟨g00, g01, g02, g03, g04, g05, g06⟩, ⟨g10, g11, g12, g13, g14, g15, g16⟩, ⟨g20, g21, g22, g23, g24, g25, g26⟩⟩ := hSw; (try simp only [Nat.zero_add] at g01 g02 g03 g04 g05 g06 g11 g12 g13 g14 g15 g16 g21 g22 g23 g24 g25 g26); go_simp; try (with_reducible rfl))
 simp only [Act.put, List.setIfInBounds_toArray, List.set_cons_zero, List.set_cons_succ]
 refine takeAt 2 (some 13) ?pv2 ⟨_, rfl, rfl, rfl, ?py2⟩ (by kernel_rfl) (by kernel_rfl) (by kernel_rfl) (fun _ _ _ h => h) (by assumption) ?_
 case py2 => (intro w0 hSw; obtain ⟨_, ⟨g00, g01, g02, g03, g04, g05, g06⟩, ⟨g10, g11, g12, g13, g14, g15, g16⟩, ⟨g20, g21, g22, g23, g24, g25, g26⟩⟩ := hSw; (try simp only [Nat.zero_add] at g01 g02 g03 g04 g05 g06 g11 g12 g13 g14 g15 g16 g21 g22 g23 g24 g25 g26); go_simp; try (with_reducible rfl))
 simp only [Act.put, List.setIfInBounds_toArray, List.set_cons_zero, List.set_cons_succ]
 refine takeAt 3 (some 14) ?pv3 ⟨_, rfl, rfl, rfl, ?py3⟩ (by kernel_rfl) (by kernel_rfl) (by kernel_rfl) (fun _ _ _ h => h) (by assumption) ?_
 case py3 => (intro w0 hSw; obtain ⟨_, ⟨g00, g01, g02, g03, g04, g05, g06⟩, ⟨g10, g11, g12, g13, g14, g15, g16⟩, ⟨g20, g21, g22, g23, g24, g25, g26⟩⟩ := hSw; (try simp only [Nat.zero_add] at g01 g02 g03 g04 g05 g06 g11 g12 g13 g14 g15 g16 g21 g22 g23 g24 g25 g26); go_simp; try (with_reducible rfl))
 simp only [Act.put, List.setIfInBounds_toArray, List.set_cons_zero, List.set_cons_succ]
 refine takeAt 4 (some 15) ?pv4 ⟨_, rfl, rfl, rfl, ?py4⟩ (by kernel_rfl) (by kernel_rfl) (by kernel_rfl) (fun _ _ _ h => h) (by assumption) ?_
 case py4 => (intro w0 hSw; obtain ⟨_, ⟨g00, g01, g02, g03, g04, g05, g06⟩, ⟨g10, g11, g12, g13, g14, g15, g16⟩, ⟨g20, g21, g22, g23, g24, g25, g26⟩⟩ := hSw; (try simp only [Nat.zero_add] at g01 g02 g03 g04 g05 g06 g11 g12 g13 g14 g15 g16 g21 g22 g23 g24 g25 g26); go_simp; try (with_reducible rfl))
 simp only [Act.put, List.setIfInBounds_toArray, List.set_cons_zero, List.set_cons_succ]
 refine takeAt 5 (some 16) ?pv5 ⟨_, rfl, rfl, rfl, ?py5⟩ (by kernel_rfl) (by kernel_rfl) (by kernel_rfl) (fun _ _ _ h => h) (by assumption) ?_
 case py5 => (intro w0 hSw; obtain ⟨_, ⟨g00, g01, g02, g03, g04, g05, g06⟩, ⟨g10, g11, g12, g13, g14, g15, g16⟩, ⟨g20, g21, g22, g23, g24, g25, g26⟩⟩ := hSw; (try simp only [Nat.zero_add] at g01 g02 g03 g04 g05 g06 g11 g12 g13 g14 g15 g16 g21 g22 g23 g24 g25 g26); go_simp; try (with_reducible rfl))
 simp only [Act.put, List.setIfInBounds_toArray, List.set_cons_zero, List.set_cons_succ]
 refine takeAt 6 (some 17) ?pv6 ⟨_, rfl, rfl, rfl, ?py6⟩ (by kernel_rfl) (by kernel_rfl) (by kernel_rfl) (fun _ _ _ h => h) (by assumption) ?_
 case py6 => (intro w0 hSw; obtain ⟨_, ⟨g00, g01, g02, g03, g04, g05, g06⟩, ⟨g10, g11, g12, g13, g14, g15, g16⟩, ⟨g20, g21, g22, g23, g24, g25, g26⟩⟩ := hSw; (try simp only [Nat.zero_add] at g01 g02 g03 g04 g05 g06 g11 g12 g13 g14 g15 g16 g21 g22 g23 g24 g25 g26); go_simp; try (with_reducible rfl))
 simp only [Act.put, List.setIfInBounds_toArray, List.set_cons_zero, List.set_cons_succ]
 refine takeAt 8 (some 19) ?pv8 ⟨_, rfl, rfl, rfl, ?py8⟩ (by kernel_rfl) (by kernel_rfl) (by kernel_rfl) (fun _ _ _ h => h) (by assumption) ?_
 case py8 => (intro w0 hSw; obtain ⟨_, ⟨g00, g01, g02, g03, g04, g05, g06⟩, ⟨g10, g11, g12, g13, g14, g15, g16⟩, ⟨g20, g21, g22, g23, g24, g25, g26⟩⟩ := hSw; (try simp only [Nat.zero_add] at g01 g02 g03 g04 g05 g06 g11 g12 g13 g14 g15 g16 g21 g22 g23 g24 g25 g26); go_simp; try (with_reducible rfl))
 simp only [Act.put, List.setIfInBounds_toArray, List.set_cons_zero, List.set_cons_succ]
 refine takeAt 9 (some 20) ?pv9 ⟨_, rfl, rfl, rfl, ?py9⟩ (by kernel_rfl) (by kernel_rfl) (by kernel_rfl) (fun _ _ _ h => h) (by assumption) ?_
 case py9 => (intro w0 hSw; obtain ⟨_, ⟨g00, g01, g02, g03, g04, g05, g06⟩, ⟨g10, g11, g12, g13, g14, g15, g16⟩, ⟨g20, g21, g22, g23, g24, g25, g26⟩⟩ := hSw; (try simp only [Nat.zero_add] at g01 g02 g03 g04 g05 g06 g11 g12 g13 g14 g15 g16 g21 g22 g23 g24 g25 g26); go_simp; try (with_reducible rfl))
 simp only [Act.put, List.setIfInBounds_toArray, List.set_cons_zero, List.set_cons_succ]
 refine takeAt 10 (some 21) ?pv10 ⟨_, rfl, rfl, rfl, ?py10⟩ (by kernel_rfl) (by kernel_rfl) (by kernel_rfl) (fun _ _ _ h => h) (by assumption) ?_
 case py10 => (intro w0 hSw; obtain ⟨_, ⟨g00, g01, g02, g03, g04, g05, g06⟩, ⟨g10, g11, g12, g13, g14, g15, g16⟩, ⟨g20, g21, g22, g23, g24, g25, g26⟩⟩ := hSw; (try simp only [Nat.zero_add] at g01 g02 g03 g04 g05 g06 g11 g12 g13 g14 g15 g16 g21 g22 g23 g24 g25 g26); go_simp; try (with_reducible rfl))
 simp only [Act.put, List.setIfInBounds_toArray, List.set_cons_zero, List.set_cons_succ]
 refine takeAt 11 (some 22) ?pv11 ⟨_, rfl, rfl, rfl, ?py11⟩ (by kernel_rfl) (by kernel_rfl) (by kernel_rfl) (fun _ _ _ h => h) (by assumption) ?_
 case py11 => (intro w0 hSw; obtain ⟨_, ⟨g00, g01, g02, g03, g04, g05, g06⟩, ⟨g10, g11, g12, g13, g14, g15, g16⟩, ⟨g20, g21, g22, g23, g24, g25, g26⟩⟩ := hSw; (try simp only [Nat.zero_add] at g01 g02 g03 g04 g05 g06 g11 g12 g13 g14 g15 g16 g21 g22 g23 g24 g25 g26); go_simp; try (with_reducible rfl))
 simp only [Act.put, List.setIfInBounds_toArray, List.set_cons_zero, List.set_cons_succ]
 refine takeAt 12 (some 23) ?pv12 ⟨_, rfl, rfl, rfl, ?py12⟩ (by kernel_rfl) (by kernel_rfl) (by kernel_rfl) (fun _ _ _ h => h) (by assumption) ?_
 case py12 => (intro w0 hSw; obtain ⟨_, ⟨g00, g01, g02, g03, g04, g05, g06⟩, ⟨g10, g11, g12, g13, g14, g15, g16⟩, ⟨g20, g21, g22, g23, g24, g25, g26⟩⟩ := hSw; (try simp only [Nat.zero_add] at g01 g02 g03 g04 g05 g06 g11 g12 g13 g14 g15 g16 g21 g22 g23 g24 g25 g26); go_simp; try (with_reducible rfl))
 simp only [Act.put, List.setIfInBounds_toArray, List.set_cons_zero, List.set_cons_succ]
 refine takeAt 13 (some 24) ?pv13 ⟨_, rfl, rfl, rfl, ?py13⟩ (by kernel_rfl) (by kernel_rfl) (by kernel_rfl) (fun _ _ _ h => h) (by assumption) ?_
 case py13 => (intro w0 hSw; obtain ⟨_, ⟨g00, g01, g02, g03, g04, g05, g06⟩, ⟨g10, g11, g12, g13, g14, g15, g16⟩, ⟨g20, g21, g22, g23, g24, g25, g26⟩⟩ := hSw; (try simp only [Nat.zero_add] at g01 g02 g03 g04 g05 g06 g11 g12 g13 g14 g15 g16 g21 g22 g23 g24 g25 g26); go_simp; try (with_reducible rfl))
 simp only [Act.put, List.setIfInBounds_toArray, List.set_cons_zero, List.set_cons_succ]
 refine takeAt 14 (some 25) ?pv14 ⟨_, rfl, rfl, rfl, ?py14⟩ (by kernel_rfl) (by kernel_rfl) (by kernel_rfl) (fun _ _ _ h => h) (by assumption) ?_
 case py14 => (intro w0 hSw; obtain ⟨_, ⟨g00, g01, g02, g03, g04, g05, g06⟩, ⟨g10, g11, g12, g13, g14, g15, g16⟩, ⟨g20, g21, g22, g23, g24, g25, g26⟩⟩ := hSw; (try simp only [Nat.zero_add] at g01 g02 g03 g04 g05 g06 g11 g12 g13 g14 g15 g16 g21 g22 g23 g24 g25 g26); go_simp; try (with_reducible rfl))
 simp only [Act.put, List.setIfInBounds_toArray, List.set_cons_zero, List.set_cons_succ]
 refine wpAnyH_ready (rs := [7]) (by kernel_rfl) (by simp) ?_
 refine AllReadyH.cons rfl (fun K0 hK0 => ?_) AllReadyH.nil
 ·go_simp
  refine (unhide HR1 _ ((unhide JX).below (Below.refl _ _).drew) ((unhide JY).below (Below.refl _ _).drew)).mono ?_
  rintro e w2 ⟨rfl, k2⟩
  unfold VT.leaf VT.val
  dsimp only
  go_wp2_with fail
  have kk2 := bstep (Below.refl V.heap.size V).drew k2
  refine hK0.out _ _ ?hS1P (fun hHeld1 => ?_)
  case hS1P => exact unhide SK _ kk2
  clear hK0 K0 hHeld k2
  have hHeld := hHeld1
  clear hHeld1
  try simp only [Act.put, List.setIfInBounds_toArray, List.set_cons_zero, List.set_cons_succ]
  refine wpAnyH_ready (rs := [15]) (by kernel_rfl) (by simp) ?_
  refine AllReadyH.cons rfl (fun K0 hK0 => ?_) AllReadyH.nil
  go_simp
  refine (unhide HR2 _ ((unhide JX).below kk2) ((unhide JZ).below kk2)).mono ?_
  rintro e w3 ⟨rfl, k3⟩
  unfold VT.leaf VT.val
  dsimp only
  go_wp2_with fail
  have kk3 := bstep kk2 k3
  refine hK0.out _ _ ?hS2P (fun hHeld1 => ?_)
  case hS2P => exact unhide SK _ kk3
  clear hK0 K0 hHeld k3
  have hHeld := hHeld1
  clear hHeld1
  try simp only [Act.put, List.setIfInBounds_toArray, List.set_cons_zero, List.set_cons_succ]
  refine wpAnyH_ready (rs := [16]) (by kernel_rfl) (by simp) ?_
  refine AllReadyH.cons rfl (fun K0 hK0 => ?_) AllReadyH.nil
  go_simp
  refine (unhide AV _).mono ?_
  rintro e w4 ⟨rfl, k4⟩
  unfold tval
  go_wp2_with fail
  have kk4 := bstep kk3 k4
  refine hK0.out _ _ ?hS3P (fun hHeld1 => ?_)
  case hS3P => exact unhide SK _ kk4
  clear hK0 K0 hHeld k4
  have hHeld := hHeld1
  clear hHeld1
  try simp only [Act.put, List.setIfInBounds_toArray, List.set_cons_zero, List.set_cons_succ]
  have O4 := O0.below kk4
  obtain ⟨u0, t0, t1, t2, t3, t4, t5, f0, f1, f2, f3, f4, f5⟩ := Own.fl O4
  refine wpAnyH_ready (rs := [17]) (by kernel_rfl) (by simp) ?_
  refine AllReadyH.cons rfl (fun K0 hK0 => ?_) AllReadyH.nil
  go_simp
  obtain ⟨hb0, hc0, hv0, hw0⟩ := hHeld
  refine hK0.out _ _ ?hS4P (fun hHeld1 => ?_)
  case hS4P => exact ⟨put_below w4 w.heap.size 0 _ _ _ _ _ _ hb0 (by omega), put_six w4 w.heap.size 0 _ _ _ _ _ _ hc0 (by omega), put_six w4 w.heap.size 0 _ _ _ _ _ _ hv0 (by omega), put_six w4 w.heap.size 0 _ _ _ _ _ _ hw0 (by omega)⟩
  refine wpAnyH_done (by kernel_rfl) ?_ _
  refine NoPanic.normal ?_
  go_wp2_with fail
  exact bodyPost_ret (v := tval RK RB) zR55tvalt0t1t2t3t4t5 rfl ⟨rfl, hHeld1.1⟩
theorem with_yn (bl o cap : Nat) (x y z : VT) (w : World) (hx : x.okB 2 = true) (hy : y.okB 2 = true) (hz : z.okB 2 = true) (hin : (rowT (some ⟨bl, o, none⟩) cap [x, y, z]).In w) :
  Calls Tryz.prog 55 #[.bool true, .bool false, .slice (some ⟨bl, o, none⟩) 3 cap] w fun e w' => e = .returned (inT true false x y z).val ∧ Below w.heap.size w w' := by
 obtain ⟨bl1, o1, k, b, m, s, t, a1, len, cap1, kid, hbl1, hx1, six1, hk1⟩ := hin.kid (i := 0) (by simp)
 obtain ⟨bl2, o2, k', b', m', s', t', a', len', cap', kid', hbl2, hx2, six2, hk2⟩ := hin.kid (i := 1) (by simp)
 obtain ⟨bl3, o3, k3, b3, m3, s3, t3, a3, len3, cap3, kid3, hbl3, hx3, six3, hk3⟩ := hin.kid (i := 2) (by simp)
 obtain ⟨rfl, rfl⟩ : bl = bl1 ∧ o = o1 := by simpa using hbl1
 obtain ⟨rfl, rfl⟩ : bl = bl2 ∧ o = o2 := by simpa using hbl2
 obtain ⟨rfl, rfl⟩ : bl = bl3 ∧ o = o3 := by simpa using hbl3
 obtain rfl : x = (VT.mk k b m s t a1 len cap1 kid) := by simpa using hx1
 obtain rfl : y = (VT.mk k' b' m' s' t' a' len' cap' kid') := by simpa using hx2
 obtain rfl : z = (VT.mk k3 b3 m3 s3 t3 a3 len3 cap3 kid3) := by simpa using hx3
 rw [show o + 0 * 6 = o by omega] at six1
 rw [show o + 1 * 6 = o + 6 by omega] at six2
 rw [show o + 2 * 6 = o + 12 by omega] at six3
 have b0 := bZ w
 have JX := hide (hk1.below b0)
 have JY := hide (hk2.below b0)
 have JZ := hide (hk3.below b0)
 have Q0 := six1.below b0
 have Q1 := six2.below b0
 have Q2 := six3.below b0
 have O0 := Own.new w 32
 have R1 := fun w h h' => rel_any [62, 61] (VT.mk k b m s t a1 len cap1 kid) (VT.mk k' b' m' s' t' a' len' cap' kid') w hx hy h h'
 have R2 := fun w h h' => rel_any [60] (VT.mk k b m s t a1 len cap1 kid) (VT.mk k3 b3 m3 s3 t3 a3 len3 cap3 kid3) w hx hz h h'
 obtain ⟨KP, BP, MP, SP, TP, eP⟩ := lf_rel [62, 61] (VT.mk k b m s t a1 len cap1 kid) (VT.mk k' b' m' s' t' a' len' cap' kid')
 obtain ⟨KQ, BQ, MQ, SQ, TQ, eQ⟩ := lf_rel [60] (VT.mk k b m s t a1 len cap1 kid) (VT.mk k3 b3 m3 s3 t3 a3 len3 cap3 kid3)
 have EI : (inT true false (VT.mk k b m s t a1 len cap1 kid) (VT.mk k' b' m' s' t' a' len' cap' kid') (VT.mk k3 b3 m3 s3 t3 a3 len3 cap3 kid3)).val = tval (andK (unB KP BP) (unB KQ BQ) (trB KP BP) (trB KQ BQ)) (andB (unB KP BP) (unB KQ BQ) (trB KP BP) (trB KQ BQ)) := by
  show (andV (relT [62, 61] (VT.mk k b m s t a1 len cap1 kid) (VT.mk k' b' m' s' t' a' len' cap' kid')) (relT [60] (VT.mk k b m s t a1 len cap1 kid) (VT.mk k3 b3 m3 s3 t3 a3 len3 cap3 kid3))).val = _
  rw [eP, eQ, and_leaf]
 rw [eP] at R1
 rw [eQ] at R2
 rw [EI]
 have HR1 := hide R1
 have HR2 := hide R2
 have hz : (w.alloc (Obj.cells #[.int .i64 0, .bool false, .int .i64 0, .int .i64 0, .string ⟨#[]⟩, .slice none 0 0] 32)).heap.size = w.heap.size + 1 := by simp
 have hbw : bl < w.heap.size := six1.1
 have AV := hide (fun w => and_any KP BP MP SP TP none 0 0 KQ BQ MQ SQ TQ none 0 0 w)
 generalize andK (unB KP BP) (unB KQ BQ) (trB KP BP) (trB KQ BQ) = RK at *
 generalize andB (unB KP BP) (unB KQ BQ) (trB KP BP) (trB KQ BQ) = RB at *
 clear R1 R2 EI eP eQ hx hy hin hbl1 hbl2 hbl3 hx1 hx2 hx3 hk1 hk2 hk3 six1 six2 six3
 go_enter Tryz.func55, Tryz.ntmps55
 go_wp2_with fail
 generalize w.alloc (Obj.cells #[.int .i64 0, .bool false, .int .i64 0, .int .i64 0, .string ⟨#[]⟩, .slice none 0 0] 32) = V at *
 have QB := b0
 have SK : Hid (∀ w', Below V.heap.size V w' → (Below w.heap.size w w' ∧ VT.Six w' bl (o) k b m s t a1 len cap1 ∧ VT.Six w' bl (o + 6) k' b' m' s' t' a' len' cap' ∧ VT.Six w' bl (o + 12) k3 b3 m3 s3 t3 a3 len3 cap3)) := hide (fun w' kk => ⟨QB.trans (kk.mono (by omega)), VT.Six.below Q0 kk, VT.Six.below Q1 kk, VT.Six.below Q2 kk⟩)
 refine wp_region_noPanic ?_
 refine wp_region_held_drew (S := fun w' => Below w.heap.size w w' ∧ VT.Six w' bl (o) k b m s t a1 len cap1 ∧ VT.Six w' bl (o + 6) k' b' m' s' t' a' len' cap' ∧ VT.Six w' bl (o + 12) k3 b3 m3 s3 t3 a3 len3 cap3) (by kernel_rfl) ?hS0 (fun hHeld => ?_)
 case hS0 => exact unhide SK _ (Below.refl _ _).drew
 refine takeAt 0 (some 11) ?pv0 ⟨_, rfl, rfl, rfl, ?py0⟩ (by kernel_rfl) (by kernel_rfl) (by kernel_rfl) (fun _ _ _ h => h) (by assumption) ?_
 case py0 => (intro w0 hSw; obtain ⟨_, ⟨g00, g01, g02, g03, g04, g05, g06⟩, ⟨g10, g11, g12, g13, g14, g15, g16⟩, ⟨g20, g21, g22, g23, g24, g25, g26⟩⟩ := hSw; (try simp only [Nat.zero_add] at g01 g02 g03 g04 g05 g06 g11 g12 g13 g14 g15 g16 g21 g22 g23 g24 g25 g26); go_simp; try (with_reducible rfl))
 simp only [Act.put, List.setIfInBounds_toArray, List.set_cons_zero, List.set_cons_succ]
 refine takeAt 1 (some 12) ?pv1 ⟨_, rfl, rfl, rfl, ?py1⟩ (by kernel_rfl) (by kernel_rfl) (by kernel_rfl) (fun _ _ _ h => h) (by assumption) ?_
 case py1 => (intro w0 hSw; obtain ⟨_, ⟨g00, g01, g02, g03, g04, g05, g06⟩, ⟨g10, g11, g12, g13, g14, g15, g16⟩, ⟨g20, g21, g22, g23, g24, g25, g26⟩⟩ := hSw; (try simp only [Nat.zero_add] at g01 g02 g03 g04 g05 g06 g11 g12 g13 g14 g15 g16 g21 g22 g23 g24 g25 g26); go_simp; try (with_reducible rfl))
 simp only [Act.put, List.setIfInBounds_toArray, List.set_cons_zero, List.set_cons_succ]
 refine takeAt 2 (some 13) ?pv2 ⟨_, rfl, rfl, rfl, ?py2⟩ (by kernel_rfl) (by kernel_rfl) (by kernel_rfl) (fun _ _ _ h => h) (by assumption) ?_
 case py2 => (intro w0 hSw; obtain ⟨_, ⟨g00, g01, g02, g03, g04, g05, g06⟩, ⟨g10, g11, g12, g13, g14, g15, g16⟩, ⟨g20, g21, g22, g23, g24, g25, g26⟩⟩ := hSw; (try simp only [Nat.zero_add] at g01 g02 g03 g04 g05 g06 g11 g12 g13 g14 g15 g16 g21 g22 g23 g24 g25 g26); go_simp; try (with_reducible rfl))
 simp only [Act.put, List.setIfInBounds_toArray, List.set_cons_zero, List.set_cons_succ]
 refine takeAt 3 (some 14) ?pv3 ⟨_, rfl, rfl, rfl, ?py3⟩ (by kernel_rfl) (by kernel_rfl) (by kernel_rfl) (fun _ _ _ h => h) (by assumption) ?_
 case py3 => (intro w0 hSw; obtain ⟨_, ⟨g00, g01, g02, g03, g04, g05, g06⟩, ⟨g10, g11, g12, g13, g14, g15, g16⟩, ⟨g20, g21, g22, g23, g24, g25, g26⟩⟩ := hSw; (try simp only [Nat.zero_add] at g01 g02 g03 g04 g05 g06 g11 g12 g13 g14 g15 g16 g21 g22 g23 g24 g25 g26); go_simp; try (with_reducible rfl))
 simp only [Act.put, List.setIfInBounds_toArray, List.set_cons_zero, List.set_cons_succ]
 refine takeAt 4 (some 15) ?pv4 ⟨_, rfl, rfl, rfl, ?py4⟩ (by kernel_rfl) (by kernel_rfl) (by kernel_rfl) (fun _ _ _ h => h) (by assumption) ?_
 case py4 => (intro w0 hSw; obtain ⟨_, ⟨g00, g01, g02, g03, g04, g05, g06⟩, ⟨g10, g11, g12, g13, g14, g15, g16⟩, ⟨g20, g21, g22, g23, g24, g25, g26⟩⟩ := hSw; (try simp only [Nat.zero_add] at g01 g02 g03 g04 g05 g06 g11 g12 g13 g14 g15 g16 g21 g22 g23 g24 g25 g26); go_simp; try (with_reducible rfl))
 simp only [Act.put, List.setIfInBounds_toArray, List.set_cons_zero, List.set_cons_succ]
 refine takeAt 5 (some 16) ?pv5 ⟨_, rfl, rfl, rfl, ?py5⟩ (by kernel_rfl) (by kernel_rfl) (by kernel_rfl) (fun _ _ _ h => h) (by assumption) ?_
 case py5 => (intro w0 hSw; obtain ⟨_, ⟨g00, g01, g02, g03, g04, g05, g06⟩, ⟨g10, g11, g12, g13, g14, g15, g16⟩, ⟨g20, g21, g22, g23, g24, g25, g26⟩⟩ := hSw; (try simp only [Nat.zero_add] at g01 g02 g03 g04 g05 g06 g11 g12 g13 g14 g15 g16 g21 g22 g23 g24 g25 g26); go_simp; try (with_reducible rfl))
 simp only [Act.put, List.setIfInBounds_toArray, List.set_cons_zero, List.set_cons_succ]
 refine takeAt 6 (some 17) ?pv6 ⟨_, rfl, rfl, rfl, ?py6⟩ (by kernel_rfl) (by kernel_rfl) (by kernel_rfl) (fun _ _ _ h => h) (by assumption) ?_
 case py6 => (intro w0 hSw; obtain ⟨_, ⟨g00, g01, g02, g03, g04, g05, g06⟩, ⟨g10, g11, g12, g13, g14, g15, g16⟩, ⟨g20, g21, g22, g23, g24, g25, g26⟩⟩ := hSw; (try simp only [Nat.zero_add] at g01 g02 g03 g04 g05 g06 g11 g12 g13 g14 g15 g16 g21 g22 g23 g24 g25 g26); go_simp; try (with_reducible rfl))
 simp only [Act.put, List.setIfInBounds_toArray, List.set_cons_zero, List.set_cons_succ]
 refine takeAt 8 (some 19) ?pv8 ⟨_, rfl, rfl, rfl, ?py8⟩ (by kernel_rfl) (by kernel_rfl) (by kernel_rfl) (fun _ _ _ h => h) (by assumption) ?_
 case py8 => (intro w0 hSw; obtain ⟨_, ⟨g00, g01, g02, g03, g04, g05, g06⟩, ⟨g10, g11, g12, g13, g14, g15, g16⟩, ⟨g20, g21, g22, g23, g24, g25, g26⟩⟩ := hSw; (try simp only [Nat.zero_add] at g01 g02 g03 g04 g05 g06 g11 g12 g13 g14 g15 g16 g21 g22 g23 g24 g25 g26); go_simp; try (with_reducible rfl))
 simp only [Act.put, List.setIfInBounds_toArray, List.set_cons_zero, List.set_cons_succ]
 refine takeAt 9 (some 20) ?pv9 ⟨_, rfl, rfl, rfl, ?py9⟩ (by kernel_rfl) (by kernel_rfl) (by kernel_rfl) (fun _ _ _ h => h) (by assumption) ?_
 case py9 => (intro w0 hSw; obtain ⟨_, ⟨g00, g01, g02, g03, g04, g05, g06⟩, ⟨g10, g11, g12, g13, g14, g15, g16⟩, ⟨g20, g21, g22, g23, g24, g25, g26⟩⟩ := hSw; (try simp only [Nat.zero_add] at g01 g02 g03 g04 g05 g06 g11 g12 g13 g14 g15 g16 g21 g22 g23 g24 g25 g26); go_simp; try (with_reducible rfl))
 simp only [Act.put, List.setIfInBounds_toArray, List.set_cons_zero, List.set_cons_succ]
 refine takeAt 10 (some 21) ?pv10 ⟨_, rfl, rfl, rfl, ?py10⟩ (by kernel_rfl) (by kernel_rfl) (by kernel_rfl) (fun _ _ _ h => h) (by assumption) ?_
 case py10 => (intro w0 hSw; obtain ⟨_, ⟨g00, g01, g02, g03, g04, g05, g06⟩, ⟨g10, g11, g12, g13, g14, g15, g16⟩, ⟨g20, g21, g22, g23, g24, g25, g26⟩⟩ := hSw; (try simp only [Nat.zero_add] at g01 g02 g03 g04 g05 g06 g11 g12 g13 g14 g15 g16 g21 g22 g23 g24 g25 g26); go_simp; try (with_reducible rfl))
 simp only [Act.put, List.setIfInBounds_toArray, List.set_cons_zero, List.set_cons_succ]
 refine takeAt 11 (some 22) ?pv11 ⟨_, rfl, rfl, rfl, ?py11⟩ (by kernel_rfl) (by kernel_rfl) (by kernel_rfl) (fun _ _ _ h => h) (by assumption) ?_
 case py11 => (intro w0 hSw; obtain ⟨_, ⟨g00, g01, g02, g03, g04, g05, g06⟩, ⟨g10, g11, g12, g13, g14, g15, g16⟩, ⟨g20, g21, g22, g23, g24, g25, g26⟩⟩ := hSw; (try simp only [Nat.zero_add] at g01 g02 g03 g04 g05 g06 g11 g12 g13 g14 g15 g16 g21 g22 g23 g24 g25 g26); go_simp; try (with_reducible rfl))
 simp only [Act.put, List.setIfInBounds_toArray, List.set_cons_zero, List.set_cons_succ]
 refine takeAt 12 (some 23) ?pv12 ⟨_, rfl, rfl, rfl, ?py12⟩ (by kernel_rfl) (by kernel_rfl) (by kernel_rfl) (fun _ _ _ h => h) (by assumption) ?_
 case py12 => (intro w0 hSw; obtain ⟨_, ⟨g00, g01, g02, g03, g04, g05, g06⟩, ⟨g10, g11, g12, g13, g14, g15, g16⟩, ⟨g20, g21, g22, g23, g24, g25, g26⟩⟩ := hSw; (try simp only [Nat.zero_add] at g01 g02 g03 g04 g05 g06 g11 g12 g13 g14 g15 g16 g21 g22 g23 g24 g25 g26); go_simp; try (with_reducible rfl))
 simp only [Act.put, List.setIfInBounds_toArray, List.set_cons_zero, List.set_cons_succ]
 refine takeAt 13 (some 24) ?pv13 ⟨_, rfl, rfl, rfl, ?py13⟩ (by kernel_rfl) (by kernel_rfl) (by kernel_rfl) (fun _ _ _ h => h) (by assumption) ?_
 case py13 => (intro w0 hSw; obtain ⟨_, ⟨g00, g01, g02, g03, g04, g05, g06⟩, ⟨g10, g11, g12, g13, g14, g15, g16⟩, ⟨g20, g21, g22, g23, g24, g25, g26⟩⟩ := hSw; (try simp only [Nat.zero_add] at g01 g02 g03 g04 g05 g06 g11 g12 g13 g14 g15 g16 g21 g22 g23 g24 g25 g26); go_simp; try (with_reducible rfl))
 simp only [Act.put, List.setIfInBounds_toArray, List.set_cons_zero, List.set_cons_succ]
 refine takeAt 14 (some 25) ?pv14 ⟨_, rfl, rfl, rfl, ?py14⟩ (by kernel_rfl) (by kernel_rfl) (by kernel_rfl) (fun _ _ _ h => h) (by assumption) ?_
 case py14 => (intro w0 hSw; obtain ⟨_, ⟨g00, g01, g02, g03, g04, g05, g06⟩, ⟨g10, g11, g12, g13, g14, g15, g16⟩, ⟨g20, g21, g22, g23, g24, g25, g26⟩⟩ := hSw; (try simp only [Nat.zero_add] at g01 g02 g03 g04 g05 g06 g11 g12 g13 g14 g15 g16 g21 g22 g23 g24 g25 g26); go_simp; try (with_reducible rfl))
 simp only [Act.put, List.setIfInBounds_toArray, List.set_cons_zero, List.set_cons_succ]
 refine wpAnyH_ready (rs := [7]) (by kernel_rfl) (by simp) ?_
 refine AllReadyH.cons rfl (fun K0 hK0 => ?_) AllReadyH.nil
 ·go_simp
  refine (unhide HR1 _ ((unhide JX).below (Below.refl _ _).drew) ((unhide JY).below (Below.refl _ _).drew)).mono ?_
  rintro e w2 ⟨rfl, k2⟩
  unfold VT.leaf VT.val
  dsimp only
  go_wp2_with fail
  have kk2 := bstep (Below.refl V.heap.size V).drew k2
  refine hK0.out _ _ ?hS1P (fun hHeld1 => ?_)
  case hS1P => exact unhide SK _ kk2
  clear hK0 K0 hHeld k2
  have hHeld := hHeld1
  clear hHeld1
  try simp only [Act.put, List.setIfInBounds_toArray, List.set_cons_zero, List.set_cons_succ]
  refine wpAnyH_ready (rs := [15]) (by kernel_rfl) (by simp) ?_
  refine AllReadyH.cons rfl (fun K0 hK0 => ?_) AllReadyH.nil
  go_simp
  refine (unhide HR2 _ ((unhide JX).below kk2) ((unhide JZ).below kk2)).mono ?_
  rintro e w3 ⟨rfl, k3⟩
  unfold VT.leaf VT.val
  dsimp only
  go_wp2_with fail
  have kk3 := bstep kk2 k3
  refine hK0.out _ _ ?hS2P (fun hHeld1 => ?_)
  case hS2P => exact unhide SK _ kk3
  clear hK0 K0 hHeld k3
  have hHeld := hHeld1
  clear hHeld1
  try simp only [Act.put, List.setIfInBounds_toArray, List.set_cons_zero, List.set_cons_succ]
  refine wpAnyH_ready (rs := [16]) (by kernel_rfl) (by simp) ?_
  refine AllReadyH.cons rfl (fun K0 hK0 => ?_) AllReadyH.nil
  go_simp
  refine (unhide AV _).mono ?_
  rintro e w4 ⟨rfl, k4⟩
  unfold tval
  go_wp2_with fail
  have kk4 := bstep kk3 k4
  refine hK0.out _ _ ?hS3P (fun hHeld1 => ?_)
  case hS3P => exact unhide SK _ kk4
  clear hK0 K0 hHeld k4
  have hHeld := hHeld1
  clear hHeld1
  try simp only [Act.put, List.setIfInBounds_toArray, List.set_cons_zero, List.set_cons_succ]
  have O4 := O0.below kk4
  obtain ⟨u0, t0, t1, t2, t3, t4, t5, f0, f1, f2, f3, f4, f5⟩ := Own.fl O4
  refine wpAnyH_ready (rs := [17]) (by kernel_rfl) (by simp) ?_
  refine AllReadyH.cons rfl (fun K0 hK0 => ?_) AllReadyH.nil
  go_simp
  obtain ⟨hb0, hc0, hv0, hw0⟩ := hHeld
  refine hK0.out _ _ ?hS4P (fun hHeld1 => ?_)
  case hS4P => exact ⟨put_below w4 w.heap.size 0 _ _ _ _ _ _ hb0 (by omega), put_six w4 w.heap.size 0 _ _ _ _ _ _ hc0 (by omega), put_six w4 w.heap.size 0 _ _ _ _ _ _ hv0 (by omega), put_six w4 w.heap.size 0 _ _ _ _ _ _ hw0 (by omega)⟩
  refine wpAnyH_done (by kernel_rfl) ?_ _
  refine NoPanic.normal ?_
  go_wp2_with fail
  exact bodyPost_ret (v := tval RK RB) zR55tvalt0t1t2t3t4t5 rfl ⟨rfl, hHeld1.1⟩
theorem with_ny (bl o cap : Nat) (x y z : VT) (w : World) (hx : x.okB 2 = true) (hy : y.okB 2 = true) (hz : z.okB 2 = true) (hin : (rowT (some ⟨bl, o, none⟩) cap [x, y, z]).In w) :
  Calls Tryz.prog 55 #[.bool false, .bool true, .slice (some ⟨bl, o, none⟩) 3 cap] w fun e w' => e = .returned (inT false true x y z).val ∧ Below w.heap.size w w' := by
 obtain ⟨bl1, o1, k, b, m, s, t, a1, len, cap1, kid, hbl1, hx1, six1, hk1⟩ := hin.kid (i := 0) (by simp)
 obtain ⟨bl2, o2, k', b', m', s', t', a', len', cap', kid', hbl2, hx2, six2, hk2⟩ := hin.kid (i := 1) (by simp)
 obtain ⟨bl3, o3, k3, b3, m3, s3, t3, a3, len3, cap3, kid3, hbl3, hx3, six3, hk3⟩ := hin.kid (i := 2) (by simp)
 obtain ⟨rfl, rfl⟩ : bl = bl1 ∧ o = o1 := by simpa using hbl1
 obtain ⟨rfl, rfl⟩ : bl = bl2 ∧ o = o2 := by simpa using hbl2
 obtain ⟨rfl, rfl⟩ : bl = bl3 ∧ o = o3 := by simpa using hbl3
 obtain rfl : x = (VT.mk k b m s t a1 len cap1 kid) := by simpa using hx1
 obtain rfl : y = (VT.mk k' b' m' s' t' a' len' cap' kid') := by simpa using hx2
 obtain rfl : z = (VT.mk k3 b3 m3 s3 t3 a3 len3 cap3 kid3) := by simpa using hx3
 rw [show o + 0 * 6 = o by omega] at six1
 rw [show o + 1 * 6 = o + 6 by omega] at six2
 rw [show o + 2 * 6 = o + 12 by omega] at six3
 have b0 := bZ w
 have JX := hide (hk1.below b0)
 have JY := hide (hk2.below b0)
 have JZ := hide (hk3.below b0)
 have Q0 := six1.below b0
 have Q1 := six2.below b0
 have Q2 := six3.below b0
 have O0 := Own.new w 32
 have R1 := fun w h h' => rel_any [62] (VT.mk k b m s t a1 len cap1 kid) (VT.mk k' b' m' s' t' a' len' cap' kid') w hx hy h h'
 have R2 := fun w h h' => rel_any [60, 61] (VT.mk k b m s t a1 len cap1 kid) (VT.mk k3 b3 m3 s3 t3 a3 len3 cap3 kid3) w hx hz h h'
 obtain ⟨KP, BP, MP, SP, TP, eP⟩ := lf_rel [62] (VT.mk k b m s t a1 len cap1 kid) (VT.mk k' b' m' s' t' a' len' cap' kid')
 obtain ⟨KQ, BQ, MQ, SQ, TQ, eQ⟩ := lf_rel [60, 61] (VT.mk k b m s t a1 len cap1 kid) (VT.mk k3 b3 m3 s3 t3 a3 len3 cap3 kid3)
 have EI : (inT false true (VT.mk k b m s t a1 len cap1 kid) (VT.mk k' b' m' s' t' a' len' cap' kid') (VT.mk k3 b3 m3 s3 t3 a3 len3 cap3 kid3)).val = tval (andK (unB KP BP) (unB KQ BQ) (trB KP BP) (trB KQ BQ)) (andB (unB KP BP) (unB KQ BQ) (trB KP BP) (trB KQ BQ)) := by
  show (andV (relT [62] (VT.mk k b m s t a1 len cap1 kid) (VT.mk k' b' m' s' t' a' len' cap' kid')) (relT [60, 61] (VT.mk k b m s t a1 len cap1 kid) (VT.mk k3 b3 m3 s3 t3 a3 len3 cap3 kid3))).val = _
  rw [eP, eQ, and_leaf]
 rw [eP] at R1
 rw [eQ] at R2
 rw [EI]
 have HR1 := hide R1
 have HR2 := hide R2
 have hz : (w.alloc (Obj.cells #[.int .i64 0, .bool false, .int .i64 0, .int .i64 0, .string ⟨#[]⟩, .slice none 0 0] 32)).heap.size = w.heap.size + 1 := by simp
 have hbw : bl < w.heap.size := six1.1
 have AV := hide (fun w => and_any KP BP MP SP TP none 0 0 KQ BQ MQ SQ TQ none 0 0 w)
 generalize andK (unB KP BP) (unB KQ BQ) (trB KP BP) (trB KQ BQ) = RK at *
 generalize andB (unB KP BP) (unB KQ BQ) (trB KP BP) (trB KQ BQ) = RB at *
 clear R1 R2 EI eP eQ hx hy hin hbl1 hbl2 hbl3 hx1 hx2 hx3 hk1 hk2 hk3 six1 six2 six3
 go_enter Tryz.func55, Tryz.ntmps55
 go_wp2_with fail
 generalize w.alloc (Obj.cells #[.int .i64 0, .bool false, .int .i64 0, .int .i64 0, .string ⟨#[]⟩, .slice none 0 0] 32) = V at *
 have QB := b0
 have SK : Hid (∀ w', Below V.heap.size V w' → (Below w.heap.size w w' ∧ VT.Six w' bl (o) k b m s t a1 len cap1 ∧ VT.Six w' bl (o + 6) k' b' m' s' t' a' len' cap' ∧ VT.Six w' bl (o + 12) k3 b3 m3 s3 t3 a3 len3 cap3)) := hide (fun w' kk => ⟨QB.trans (kk.mono (by omega)), VT.Six.below Q0 kk, VT.Six.below Q1 kk, VT.Six.below Q2 kk⟩)
 refine wp_region_noPanic ?_
 refine wp_region_held_drew (S := fun w' => Below w.heap.size w w' ∧ VT.Six w' bl (o) k b m s t a1 len cap1 ∧ VT.Six w' bl (o + 6) k' b' m' s' t' a' len' cap' ∧ VT.Six w' bl (o + 12) k3 b3 m3 s3 t3 a3 len3 cap3) (by kernel_rfl) ?hS0 (fun hHeld => ?_)
 case hS0 => exact unhide SK _ (Below.refl _ _).drew
 refine takeAt 0 (some 11) ?pv0 ⟨_, rfl, rfl, rfl, ?py0⟩ (by kernel_rfl) (by kernel_rfl) (by kernel_rfl) (fun _ _ _ h => h) (by assumption) ?_
 case py0 => (intro w0 hSw; obtain ⟨_, ⟨g00, g01, g02, g03, g04, g05, g06⟩, ⟨g10, g11, g12, g13, g14, g15, g16⟩, ⟨g20, g21, g22, g23, g24, g25, g26⟩⟩ := hSw; (try simp only [Nat.zero_add] at g01 g02 g03 g04 g05 g06 g11 g12 g13 g14 g15 g16 g21 g22 g23 g24 g25 g26); go_simp; try (with_reducible rfl))
 simp only [Act.put, List.setIfInBounds_toArray, List.set_cons_zero, List.set_cons_succ]
 refine takeAt 1 (some 12) ?pv1 ⟨_, rfl, rfl, rfl, ?py1⟩ (by kernel_rfl) (by kernel_rfl) (by kernel_rfl) (fun _ _ _ h => h) (by assumption) ?_
 case py1 => (intro w0 hSw; obtain ⟨_, ⟨g00, g01, g02, g03, g04, g05, g06⟩, ⟨g10, g11, g12, g13, g14, g15, g16⟩, ⟨g20, g21, g22, g23, g24, g25, g26⟩⟩ := hSw; (try simp only [Nat.zero_add] at g01 g02 g03 g04 g05 g06 g11 g12 g13 g14 g15 g16 g21 g22 g23 g24 g25 g26); go_simp; try (with_reducible rfl))
 simp only [Act.put, List.setIfInBounds_toArray, List.set_cons_zero, List.set_cons_succ]
 refine takeAt 2 (some 13) ?pv2 ⟨_, rfl, rfl, rfl, ?py2⟩ (by kernel_rfl) (by kernel_rfl) (by kernel_rfl) (fun _ _ _ h => h) (by assumption) ?_
 case py2 => (intro w0 hSw; obtain ⟨_, ⟨g00, g01, g02, g03, g04, g05, g06⟩, ⟨g10, g11, g12, g13, g14, g15, g16⟩, ⟨g20, g21, g22, g23, g24, g25, g26⟩⟩ := hSw; (try simp only [Nat.zero_add] at g01 g02 g03 g04 g05 g06 g11 g12 g13 g14 g15 g16 g21 g22 g23 g24 g25 g26); go_simp; try (with_reducible rfl))
 simp only [Act.put, List.setIfInBounds_toArray, List.set_cons_zero, List.set_cons_succ]
 refine takeAt 3 (some 14) ?pv3 ⟨_, rfl, rfl, rfl, ?py3⟩ (by kernel_rfl) (by kernel_rfl) (by kernel_rfl) (fun _ _ _ h => h) (by assumption) ?_
 case py3 => (intro w0 hSw; obtain ⟨_, ⟨g00, g01, g02, g03, g04, g05, g06⟩, ⟨g10, g11, g12, g13, g14, g15, g16⟩, ⟨g20, g21, g22, g23, g24, g25, g26⟩⟩ := hSw; (try simp only [Nat.zero_add] at g01 g02 g03 g04 g05 g06 g11 g12 g13 g14 g15 g16 g21 g22 g23 g24 g25 g26); go_simp; try (with_reducible rfl))
 simp only [Act.put, List.setIfInBounds_toArray, List.set_cons_zero, List.set_cons_succ]
 refine takeAt 4 (some 15) ?pv4 ⟨_, rfl, rfl, rfl, ?py4⟩ (by kernel_rfl) (by kernel_rfl) (by kernel_rfl) (fun _ _ _ h => h) (by assumption) ?_
 case py4 => (intro w0 hSw; obtain ⟨_, ⟨g00, g01, g02, g03, g04, g05, g06⟩, ⟨g10, g11, g12, g13, g14, g15, g16⟩, ⟨g20, g21, g22, g23, g24, g25, g26⟩⟩ := hSw; (try simp only [Nat.zero_add] at g01 g02 g03 g04 g05 g06 g11 g12 g13 g14 g15 g16 g21 g22 g23 g24 g25 g26); go_simp; try (with_reducible rfl))
 simp only [Act.put, List.setIfInBounds_toArray, List.set_cons_zero, List.set_cons_succ]
 refine takeAt 5 (some 16) ?pv5 ⟨_, rfl, rfl, rfl, ?py5⟩ (by kernel_rfl) (by kernel_rfl) (by kernel_rfl) (fun _ _ _ h => h) (by assumption) ?_
 case py5 => (intro w0 hSw; obtain ⟨_, ⟨g00, g01, g02, g03, g04, g05, g06⟩, ⟨g10, g11, g12, g13, g14, g15, g16⟩, ⟨g20, g21, g22, g23, g24, g25, g26⟩⟩ := hSw; (try simp only [Nat.zero_add] at g01 g02 g03 g04 g05 g06 g11 g12 g13 g14 g15 g16 g21 g22 g23 g24 g25 g26); go_simp; try (with_reducible rfl))
 simp only [Act.put, List.setIfInBounds_toArray, List.set_cons_zero, List.set_cons_succ]
 refine takeAt 6 (some 17) ?pv6 ⟨_, rfl, rfl, rfl, ?py6⟩ (by kernel_rfl) (by kernel_rfl) (by kernel_rfl) (fun _ _ _ h => h) (by assumption) ?_
 case py6 => (intro w0 hSw; obtain ⟨_, ⟨g00, g01, g02, g03, g04, g05, g06⟩, ⟨g10, g11, g12, g13, g14, g15, g16⟩, ⟨g20, g21, g22, g23, g24, g25, g26⟩⟩ := hSw; (try simp only [Nat.zero_add] at g01 g02 g03 g04 g05 g06 g11 g12 g13 g14 g15 g16 g21 g22 g23 g24 g25 g26); go_simp; try (with_reducible rfl))
 simp only [Act.put, List.setIfInBounds_toArray, List.set_cons_zero, List.set_cons_succ]
 refine takeAt 8 (some 19) ?pv8 ⟨_, rfl, rfl, rfl, ?py8⟩ (by kernel_rfl) (by kernel_rfl) (by kernel_rfl) (fun _ _ _ h => h) (by assumption) ?_
 case py8 => (intro w0 hSw; obtain ⟨_, ⟨g00, g01, g02, g03, g04, g05, g06⟩, ⟨g10, g11, g12, g13, g14, g15, g16⟩, ⟨g20, g21, g22, g23, g24, g25, g26⟩⟩ := hSw; (try simp only [Nat.zero_add] at g01 g02 g03 g04 g05 g06 g11 g12 g13 g14 g15 g16 g21 g22 g23 g24 g25 g26); go_simp; try (with_reducible rfl))
 simp only [Act.put, List.setIfInBounds_toArray, List.set_cons_zero, List.set_cons_succ]
 refine takeAt 9 (some 20) ?pv9 ⟨_, rfl, rfl, rfl, ?py9⟩ (by kernel_rfl) (by kernel_rfl) (by kernel_rfl) (fun _ _ _ h => h) (by assumption) ?_
 case py9 => (intro w0 hSw; obtain ⟨_, ⟨g00, g01, g02, g03, g04, g05, g06⟩, ⟨g10, g11, g12, g13, g14, g15, g16⟩, ⟨g20, g21, g22, g23, g24, g25, g26⟩⟩ := hSw; (try simp only [Nat.zero_add] at g01 g02 g03 g04 g05 g06 g11 g12 g13 g14 g15 g16 g21 g22 g23 g24 g25 g26); go_simp; try (with_reducible rfl))
 simp only [Act.put, List.setIfInBounds_toArray, List.set_cons_zero, List.set_cons_succ]
 refine takeAt 10 (some 21) ?pv10 ⟨_, rfl, rfl, rfl, ?py10⟩ (by kernel_rfl) (by kernel_rfl) (by kernel_rfl) (fun _ _ _ h => h) (by assumption) ?_
 case py10 => (intro w0 hSw; obtain ⟨_, ⟨g00, g01, g02, g03, g04, g05, g06⟩, ⟨g10, g11, g12, g13, g14, g15, g16⟩, ⟨g20, g21, g22, g23, g24, g25, g26⟩⟩ := hSw; (try simp only [Nat.zero_add] at g01 g02 g03 g04 g05 g06 g11 g12 g13 g14 g15 g16 g21 g22 g23 g24 g25 g26); go_simp; try (with_reducible rfl))
 simp only [Act.put, List.setIfInBounds_toArray, List.set_cons_zero, List.set_cons_succ]
 refine takeAt 11 (some 22) ?pv11 ⟨_, rfl, rfl, rfl, ?py11⟩ (by kernel_rfl) (by kernel_rfl) (by kernel_rfl) (fun _ _ _ h => h) (by assumption) ?_
 case py11 => (intro w0 hSw; obtain ⟨_, ⟨g00, g01, g02, g03, g04, g05, g06⟩, ⟨g10, g11, g12, g13, g14, g15, g16⟩, ⟨g20, g21, g22, g23, g24, g25, g26⟩⟩ := hSw; (try simp only [Nat.zero_add] at g01 g02 g03 g04 g05 g06 g11 g12 g13 g14 g15 g16 g21 g22 g23 g24 g25 g26); go_simp; try (with_reducible rfl))
 simp only [Act.put, List.setIfInBounds_toArray, List.set_cons_zero, List.set_cons_succ]
 refine takeAt 12 (some 23) ?pv12 ⟨_, rfl, rfl, rfl, ?py12⟩ (by kernel_rfl) (by kernel_rfl) (by kernel_rfl) (fun _ _ _ h => h) (by assumption) ?_
 case py12 => (intro w0 hSw; obtain ⟨_, ⟨g00, g01, g02, g03, g04, g05, g06⟩, ⟨g10, g11, g12, g13, g14, g15, g16⟩, ⟨g20, g21, g22, g23, g24, g25, g26⟩⟩ := hSw; (try simp only [Nat.zero_add] at g01 g02 g03 g04 g05 g06 g11 g12 g13 g14 g15 g16 g21 g22 g23 g24 g25 g26); go_simp; try (with_reducible rfl))
 simp only [Act.put, List.setIfInBounds_toArray, List.set_cons_zero, List.set_cons_succ]
 refine takeAt 13 (some 24) ?pv13 ⟨_, rfl, rfl, rfl, ?py13⟩ (by kernel_rfl) (by kernel_rfl) (by kernel_rfl) (fun _ _ _ h => h) (by assumption) ?_
 case py13 => (intro w0 hSw; obtain ⟨_, ⟨g00, g01, g02, g03, g04, g05, g06⟩, ⟨g10, g11, g12, g13, g14, g15, g16⟩, ⟨g20, g21, g22, g23, g24, g25, g26⟩⟩ := hSw; (try simp only [Nat.zero_add] at g01 g02 g03 g04 g05 g06 g11 g12 g13 g14 g15 g16 g21 g22 g23 g24 g25 g26); go_simp; try (with_reducible rfl))
 simp only [Act.put, List.setIfInBounds_toArray, List.set_cons_zero, List.set_cons_succ]
 refine takeAt 14 (some 25) ?pv14 ⟨_, rfl, rfl, rfl, ?py14⟩ (by kernel_rfl) (by kernel_rfl) (by kernel_rfl) (fun _ _ _ h => h) (by assumption) ?_
 case py14 => (intro w0 hSw; obtain ⟨_, ⟨g00, g01, g02, g03, g04, g05, g06⟩, ⟨g10, g11, g12, g13, g14, g15, g16⟩, ⟨g20, g21, g22, g23, g24, g25, g26⟩⟩ := hSw; (try simp only [Nat.zero_add] at g01 g02 g03 g04 g05 g06 g11 g12 g13 g14 g15 g16 g21 g22 g23 g24 g25 g26); go_simp; try (with_reducible rfl))
 simp only [Act.put, List.setIfInBounds_toArray, List.set_cons_zero, List.set_cons_succ]
 refine wpAnyH_ready (rs := [7]) (by kernel_rfl) (by simp) ?_
 refine AllReadyH.cons rfl (fun K0 hK0 => ?_) AllReadyH.nil
 ·go_simp
  refine (unhide HR1 _ ((unhide JX).below (Below.refl _ _).drew) ((unhide JY).below (Below.refl _ _).drew)).mono ?_
  rintro e w2 ⟨rfl, k2⟩
  unfold VT.leaf VT.val
  dsimp only
  go_wp2_with fail
  have kk2 := bstep (Below.refl V.heap.size V).drew k2
  refine hK0.out _ _ ?hS1P (fun hHeld1 => ?_)
  case hS1P => exact unhide SK _ kk2
  clear hK0 K0 hHeld k2
  have hHeld := hHeld1
  clear hHeld1
  try simp only [Act.put, List.setIfInBounds_toArray, List.set_cons_zero, List.set_cons_succ]
  refine wpAnyH_ready (rs := [15]) (by kernel_rfl) (by simp) ?_
  refine AllReadyH.cons rfl (fun K0 hK0 => ?_) AllReadyH.nil
  go_simp
  refine (unhide HR2 _ ((unhide JX).below kk2) ((unhide JZ).below kk2)).mono ?_
  rintro e w3 ⟨rfl, k3⟩
  unfold VT.leaf VT.val
  dsimp only
  go_wp2_with fail
  have kk3 := bstep kk2 k3
  refine hK0.out _ _ ?hS2P (fun hHeld1 => ?_)
  case hS2P => exact unhide SK _ kk3
  clear hK0 K0 hHeld k3
  have hHeld := hHeld1
  clear hHeld1
  try simp only [Act.put, List.setIfInBounds_toArray, List.set_cons_zero, List.set_cons_succ]
  refine wpAnyH_ready (rs := [16]) (by kernel_rfl) (by simp) ?_
  refine AllReadyH.cons rfl (fun K0 hK0 => ?_) AllReadyH.nil
  go_simp
  refine (unhide AV _).mono ?_
  rintro e w4 ⟨rfl, k4⟩
  unfold tval
  go_wp2_with fail
  have kk4 := bstep kk3 k4
  refine hK0.out _ _ ?hS3P (fun hHeld1 => ?_)
  case hS3P => exact unhide SK _ kk4
  clear hK0 K0 hHeld k4
  have hHeld := hHeld1
  clear hHeld1
  try simp only [Act.put, List.setIfInBounds_toArray, List.set_cons_zero, List.set_cons_succ]
  have O4 := O0.below kk4
  obtain ⟨u0, t0, t1, t2, t3, t4, t5, f0, f1, f2, f3, f4, f5⟩ := Own.fl O4
  refine wpAnyH_ready (rs := [17]) (by kernel_rfl) (by simp) ?_
  refine AllReadyH.cons rfl (fun K0 hK0 => ?_) AllReadyH.nil
  go_simp
  obtain ⟨hb0, hc0, hv0, hw0⟩ := hHeld
  refine hK0.out _ _ ?hS4P (fun hHeld1 => ?_)
  case hS4P => exact ⟨put_below w4 w.heap.size 0 _ _ _ _ _ _ hb0 (by omega), put_six w4 w.heap.size 0 _ _ _ _ _ _ hc0 (by omega), put_six w4 w.heap.size 0 _ _ _ _ _ _ hv0 (by omega), put_six w4 w.heap.size 0 _ _ _ _ _ _ hw0 (by omega)⟩
  refine wpAnyH_done (by kernel_rfl) ?_ _
  refine NoPanic.normal ?_
  go_wp2_with fail
  exact bodyPost_ret (v := tval RK RB) zR55tvalt0t1t2t3t4t5 rfl ⟨rfl, hHeld1.1⟩
theorem with_nn (bl o cap : Nat) (x y z : VT) (w : World) (hx : x.okB 2 = true) (hy : y.okB 2 = true) (hz : z.okB 2 = true) (hin : (rowT (some ⟨bl, o, none⟩) cap [x, y, z]).In w) :
  Calls Tryz.prog 55 #[.bool false, .bool false, .slice (some ⟨bl, o, none⟩) 3 cap] w fun e w' => e = .returned (inT false false x y z).val ∧ Below w.heap.size w w' := by
 obtain ⟨bl1, o1, k, b, m, s, t, a1, len, cap1, kid, hbl1, hx1, six1, hk1⟩ := hin.kid (i := 0) (by simp)
 obtain ⟨bl2, o2, k', b', m', s', t', a', len', cap', kid', hbl2, hx2, six2, hk2⟩ := hin.kid (i := 1) (by simp)
 obtain ⟨bl3, o3, k3, b3, m3, s3, t3, a3, len3, cap3, kid3, hbl3, hx3, six3, hk3⟩ := hin.kid (i := 2) (by simp)
 obtain ⟨rfl, rfl⟩ : bl = bl1 ∧ o = o1 := by simpa using hbl1
 obtain ⟨rfl, rfl⟩ : bl = bl2 ∧ o = o2 := by simpa using hbl2
 obtain ⟨rfl, rfl⟩ : bl = bl3 ∧ o = o3 := by simpa using hbl3
 obtain rfl : x = (VT.mk k b m s t a1 len cap1 kid) := by simpa using hx1
 obtain rfl : y = (VT.mk k' b' m' s' t' a' len' cap' kid') := by simpa using hx2
 obtain rfl : z = (VT.mk k3 b3 m3 s3 t3 a3 len3 cap3 kid3) := by simpa using hx3
 rw [show o + 0 * 6 = o by omega] at six1
 rw [show o + 1 * 6 = o + 6 by omega] at six2
 rw [show o + 2 * 6 = o + 12 by omega] at six3
 have b0 := bZ w
 have JX := hide (hk1.below b0)
 have JY := hide (hk2.below b0)
 have JZ := hide (hk3.below b0)
 have Q0 := six1.below b0
 have Q1 := six2.below b0
 have Q2 := six3.below b0
 have O0 := Own.new w 32
 have R1 := fun w h h' => rel_any [62] (VT.mk k b m s t a1 len cap1 kid) (VT.mk k' b' m' s' t' a' len' cap' kid') w hx hy h h'
 have R2 := fun w h h' => rel_any [60] (VT.mk k b m s t a1 len cap1 kid) (VT.mk k3 b3 m3 s3 t3 a3 len3 cap3 kid3) w hx hz h h'
 obtain ⟨KP, BP, MP, SP, TP, eP⟩ := lf_rel [62] (VT.mk k b m s t a1 len cap1 kid) (VT.mk k' b' m' s' t' a' len' cap' kid')
 obtain ⟨KQ, BQ, MQ, SQ, TQ, eQ⟩ := lf_rel [60] (VT.mk k b m s t a1 len cap1 kid) (VT.mk k3 b3 m3 s3 t3 a3 len3 cap3 kid3)
 have EI : (inT false false (VT.mk k b m s t a1 len cap1 kid) (VT.mk k' b' m' s' t' a' len' cap' kid') (VT.mk k3 b3 m3 s3 t3 a3 len3 cap3 kid3)).val = tval (andK (unB KP BP) (unB KQ BQ) (trB KP BP) (trB KQ BQ)) (andB (unB KP BP) (unB KQ BQ) (trB KP BP) (trB KQ BQ)) := by
  show (andV (relT [62] (VT.mk k b m s t a1 len cap1 kid) (VT.mk k' b' m' s' t' a' len' cap' kid')) (relT [60] (VT.mk k b m s t a1 len cap1 kid) (VT.mk k3 b3 m3 s3 t3 a3 len3 cap3 kid3))).val = _
  rw [eP, eQ, and_leaf]
 rw [eP] at R1
 rw [eQ] at R2
 rw [EI]
 have HR1 := hide R1
 have HR2 := hide R2
 have hz : (w.alloc (Obj.cells #[.int .i64 0, .bool false, .int .i64 0, .int .i64 0, .string ⟨#[]⟩, .slice none 0 0] 32)).heap.size = w.heap.size + 1 := by simp
 have hbw : bl < w.heap.size := six1.1
 have AV := hide (fun w => and_any KP BP MP SP TP none 0 0 KQ BQ MQ SQ TQ none 0 0 w)
 generalize andK (unB KP BP) (unB KQ BQ) (trB KP BP) (trB KQ BQ) = RK at *
 generalize andB (unB KP BP) (unB KQ BQ) (trB KP BP) (trB KQ BQ) = RB at *
 clear R1 R2 EI eP eQ hx hy hin hbl1 hbl2 hbl3 hx1 hx2 hx3 hk1 hk2 hk3 six1 six2 six3
 go_enter Tryz.func55, Tryz.ntmps55
 go_wp2_with fail
 generalize w.alloc (Obj.cells #[.int .i64 0, .bool false, .int .i64 0, .int .i64 0, .string ⟨#[]⟩, .slice none 0 0] 32) = V at *
 have QB := b0
 have SK : Hid (∀ w', Below V.heap.size V w' → (Below w.heap.size w w' ∧ VT.Six w' bl (o) k b m s t a1 len cap1 ∧ VT.Six w' bl (o + 6) k' b' m' s' t' a' len' cap' ∧ VT.Six w' bl (o + 12) k3 b3 m3 s3 t3 a3 len3 cap3)) := hide (fun w' kk => ⟨QB.trans (kk.mono (by omega)), VT.Six.below Q0 kk, VT.Six.below Q1 kk, VT.Six.below Q2 kk⟩)
 refine wp_region_noPanic ?_
 refine wp_region_held_drew (S := fun w' => Below w.heap.size w w' ∧ VT.Six w' bl (o) k b m s t a1 len cap1 ∧ VT.Six w' bl (o + 6) k' b' m' s' t' a' len' cap' ∧ VT.Six w' bl (o + 12) k3 b3 m3 s3 t3 a3 len3 cap3) (by kernel_rfl) ?hS0 (fun hHeld => ?_)
 case hS0 => exact unhide SK _ (Below.refl _ _).drew
 refine takeAt 0 (some 11) ?pv0 ⟨_, rfl, rfl, rfl, ?py0⟩ (by kernel_rfl) (by kernel_rfl) (by kernel_rfl) (fun _ _ _ h => h) (by assumption) ?_
 case py0 => (intro w0 hSw; obtain ⟨_, ⟨g00, g01, g02, g03, g04, g05, g06⟩, ⟨g10, g11, g12, g13, g14, g15, g16⟩, ⟨g20, g21, g22, g23, g24, g25, g26⟩⟩ := hSw; (try simp only [Nat.zero_add] at g01 g02 g03 g04 g05 g06 g11 g12 g13 g14 g15 g16 g21 g22 g23 g24 g25 g26); go_simp; try (with_reducible rfl))
 simp only [Act.put, List.setIfInBounds_toArray, List.set_cons_zero, List.set_cons_succ]
 refine takeAt 1 (some 12) ?pv1 ⟨_, rfl, rfl, rfl, ?py1⟩ (by kernel_rfl) (by kernel_rfl) (by kernel_rfl) (fun _ _ _ h => h) (by assumption) ?_
 case py1 => (intro w0 hSw; obtain ⟨_, ⟨g00, g01, g02, g03, g04, g05, g06⟩, ⟨g10, g11, g12, g13, g14, g15, g16⟩, ⟨g20, g21, g22, g23, g24, g25, g26⟩⟩ := hSw; (try simp only [Nat.zero_add] at g01 g02 g03 g04 g05 g06 g11 g12 g13 g14 g15 g16 g21 g22 g23 g24 g25 g26); go_simp; try (with_reducible rfl))
 simp only [Act.put, List.setIfInBounds_toArray, List.set_cons_zero, List.set_cons_succ]
 refine takeAt 2 (some 13) ?pv2 ⟨_, rfl, rfl, rfl, ?py2⟩ (by kernel_rfl) (by kernel_rfl) (by kernel_rfl) (fun _ _ _ h => h) (by assumption) ?_
 case py2 => (intro w0 hSw; obtain ⟨_, ⟨g00, g01, g02, g03, g04, g05, g06⟩, ⟨g10, g11, g12, g13, g14, g15, g16⟩, ⟨g20, g21, g22, g23, g24, g25, g26⟩⟩ := hSw; (try simp only [Nat.zero_add] at g01 g02 g03 g04 g05 g06 g11 g12 g13 g14 g15 g16 g21 g22 g23 g24 g25 g26); go_simp; try (with_reducible rfl))
 simp only [Act.put, List.setIfInBounds_toArray, List.set_cons_zero, List.set_cons_succ]
 refine takeAt 3 (some 14) ?pv3 ⟨_, rfl, rfl, rfl, ?py3⟩ (by kernel_rfl) (by kernel_rfl) (by kernel_rfl) (fun _ _ _ h => h) (by assumption) ?_
 case py3 => (intro w0 hSw; obtain ⟨_, ⟨g00, g01, g02, g03, g04, g05, g06⟩, ⟨g10, g11, g12, g13, g14, g15, g16⟩, ⟨g20, g21, g22, g23, g24, g25, g26⟩⟩ := hSw; (try simp only [Nat.zero_add] at g01 g02 g03 g04 g05 g06 g11 g12 g13 g14 g15 g16 g21 g22 g23 g24 g25 g26); go_simp; try (with_reducible rfl))
 simp only [Act.put, List.setIfInBounds_toArray, List.set_cons_zero, List.set_cons_succ]
 refine takeAt 4 (some 15) ?pv4 ⟨_, rfl, rfl, rfl, ?py4⟩ (by kernel_rfl) (by kernel_rfl) (by kernel_rfl) (fun _ _ _ h => h) (by assumption) ?_
 case py4 => (intro w0 hSw; obtain ⟨_, ⟨g00, g01, g02, g03, g04, g05, g06⟩, ⟨g10, g11, g12, g13, g14, g15, g16⟩, ⟨g20, g21, g22, g23, g24, g25, g26⟩⟩ := hSw; (try simp only [Nat.zero_add] at g01 g02 g03 g04 g05 g06 g11 g12 g13 g14 g15 g16 g21 g22 g23 g24 g25 g26); go_simp; try (with_reducible rfl))
 simp only [Act.put, List.setIfInBounds_toArray, List.set_cons_zero, List.set_cons_succ]
 refine takeAt 5 (some 16) ?pv5 ⟨_, rfl, rfl, rfl, ?py5⟩ (by kernel_rfl) (by kernel_rfl) (by kernel_rfl) (fun _ _ _ h => h) (by assumption) ?_
 case py5 => (intro w0 hSw; obtain ⟨_, ⟨g00, g01, g02, g03, g04, g05, g06⟩, ⟨g10, g11, g12, g13, g14, g15, g16⟩, ⟨g20, g21, g22, g23, g24, g25, g26⟩⟩ := hSw; (try simp only [Nat.zero_add] at g01 g02 g03 g04 g05 g06 g11 g12 g13 g14 g15 g16 g21 g22 g23 g24 g25 g26); go_simp; try (with_reducible rfl))
 simp only [Act.put, List.setIfInBounds_toArray, List.set_cons_zero, List.set_cons_succ]
 refine takeAt 6 (some 17) ?pv6 ⟨_, rfl, rfl, rfl, ?py6⟩ (by kernel_rfl) (by kernel_rfl) (by kernel_rfl) (fun _ _ _ h => h) (by assumption) ?_
 case py6 => (intro w0 hSw; obtain ⟨_, ⟨g00, g01, g02, g03, g04, g05, g06⟩, ⟨g10, g11, g12, g13, g14, g15, g16⟩, ⟨g20, g21, g22, g23, g24, g25, g26⟩⟩ := hSw; (try simp only [Nat.zero_add] at g01 g02 g03 g04 g05 g06 g11 g12 g13 g14 g15 g16 g21 g22 g23 g24 g25 g26); go_simp; try (with_reducible rfl))
 simp only [Act.put, List.setIfInBounds_toArray, List.set_cons_zero, List.set_cons_succ]
 refine takeAt 8 (some 19) ?pv8 ⟨_, rfl, rfl, rfl, ?py8⟩ (by kernel_rfl) (by kernel_rfl) (by kernel_rfl) (fun _ _ _ h => h) (by assumption) ?_
 case py8 => (intro w0 hSw; obtain ⟨_, ⟨g00, g01, g02, g03, g04, g05, g06⟩, ⟨g10, g11, g12, g13, g14, g15, g16⟩, ⟨g20, g21, g22, g23, g24, g25, g26⟩⟩ := hSw; (try simp only [Nat.zero_add] at g01 g02 g03 g04 g05 g06 g11 g12 g13 g14 g15 g16 g21 g22 g23 g24 g25 g26); go_simp; try (with_reducible rfl))
 simp only [Act.put, List.setIfInBounds_toArray, List.set_cons_zero, List.set_cons_succ]
 refine takeAt 9 (some 20) ?pv9 ⟨_, rfl, rfl, rfl, ?py9⟩ (by kernel_rfl) (by kernel_rfl) (by kernel_rfl) (fun _ _ _ h => h) (by assumption) ?_
 case py9 => (intro w0 hSw; obtain ⟨_, ⟨g00, g01, g02, g03, g04, g05, g06⟩, ⟨g10, g11, g12, g13, g14, g15, g16⟩, ⟨g20, g21, g22, g23, g24, g25, g26⟩⟩ := hSw; (try simp only [Nat.zero_add] at g01 g02 g03 g04 g05 g06 g11 g12 g13 g14 g15 g16 g21 g22 g23 g24 g25 g26); go_simp; try (with_reducible rfl))
 simp only [Act.put, List.setIfInBounds_toArray, List.set_cons_zero, List.set_cons_succ]
 refine takeAt 10 (some 21) ?pv10 ⟨_, rfl, rfl, rfl, ?py10⟩ (by kernel_rfl) (by kernel_rfl) (by kernel_rfl) (fun _ _ _ h => h) (by assumption) ?_
 case py10 => (intro w0 hSw; obtain ⟨_, ⟨g00, g01, g02, g03, g04, g05, g06⟩, ⟨g10, g11, g12, g13, g14, g15, g16⟩, ⟨g20, g21, g22, g23, g24, g25, g26⟩⟩ := hSw; (try simp only [Nat.zero_add] at g01 g02 g03 g04 g05 g06 g11 g12 g13 g14 g15 g16 g21 g22 g23 g24 g25 g26); go_simp; try (with_reducible rfl))
 simp only [Act.put, List.setIfInBounds_toArray, List.set_cons_zero, List.set_cons_succ]
 refine takeAt 11 (some 22) ?pv11 ⟨_, rfl, rfl, rfl, ?py11⟩ (by kernel_rfl) (by kernel_rfl) (by kernel_rfl) (fun _ _ _ h => h) (by assumption) ?_
 case py11 => (intro w0 hSw; obtain ⟨_, ⟨g00, g01, g02, g03, g04, g05, g06⟩, ⟨g10, g11, g12, g13, g14, g15, g16⟩, ⟨g20, g21, g22, g23, g24, g25, g26⟩⟩ := hSw; (try simp only [Nat.zero_add] at g01 g02 g03 g04 g05 g06 g11 g12 g13 g14 g15 g16 g21 g22 g23 g24 g25 g26); go_simp; try (with_reducible rfl))
 simp only [Act.put, List.setIfInBounds_toArray, List.set_cons_zero, List.set_cons_succ]
 refine takeAt 12 (some 23) ?pv12 ⟨_, rfl, rfl, rfl, ?py12⟩ (by kernel_rfl) (by kernel_rfl) (by kernel_rfl) (fun _ _ _ h => h) (by assumption) ?_
 case py12 => (intro w0 hSw; obtain ⟨_, ⟨g00, g01, g02, g03, g04, g05, g06⟩, ⟨g10, g11, g12, g13, g14, g15, g16⟩, ⟨g20, g21, g22, g23, g24, g25, g26⟩⟩ := hSw; (try simp only [Nat.zero_add] at g01 g02 g03 g04 g05 g06 g11 g12 g13 g14 g15 g16 g21 g22 g23 g24 g25 g26); go_simp; try (with_reducible rfl))
 simp only [Act.put, List.setIfInBounds_toArray, List.set_cons_zero, List.set_cons_succ]
 refine takeAt 13 (some 24) ?pv13 ⟨_, rfl, rfl, rfl, ?py13⟩ (by kernel_rfl) (by kernel_rfl) (by kernel_rfl) (fun _ _ _ h => h) (by assumption) ?_
 case py13 => (intro w0 hSw; obtain ⟨_, ⟨g00, g01, g02, g03, g04, g05, g06⟩, ⟨g10, g11, g12, g13, g14, g15, g16⟩, ⟨g20, g21, g22, g23, g24, g25, g26⟩⟩ := hSw; (try simp only [Nat.zero_add] at g01 g02 g03 g04 g05 g06 g11 g12 g13 g14 g15 g16 g21 g22 g23 g24 g25 g26); go_simp; try (with_reducible rfl))
 simp only [Act.put, List.setIfInBounds_toArray, List.set_cons_zero, List.set_cons_succ]
 refine takeAt 14 (some 25) ?pv14 ⟨_, rfl, rfl, rfl, ?py14⟩ (by kernel_rfl) (by kernel_rfl) (by kernel_rfl) (fun _ _ _ h => h) (by assumption) ?_
 case py14 => (intro w0 hSw; obtain ⟨_, ⟨g00, g01, g02, g03, g04, g05, g06⟩, ⟨g10, g11, g12, g13, g14, g15, g16⟩, ⟨g20, g21, g22, g23, g24, g25, g26⟩⟩ := hSw; (try simp only [Nat.zero_add] at g01 g02 g03 g04 g05 g06 g11 g12 g13 g14 g15 g16 g21 g22 g23 g24 g25 g26); go_simp; try (with_reducible rfl))
 simp only [Act.put, List.setIfInBounds_toArray, List.set_cons_zero, List.set_cons_succ]
 refine wpAnyH_ready (rs := [7]) (by kernel_rfl) (by simp) ?_
 refine AllReadyH.cons rfl (fun K0 hK0 => ?_) AllReadyH.nil
 ·go_simp
  refine (unhide HR1 _ ((unhide JX).below (Below.refl _ _).drew) ((unhide JY).below (Below.refl _ _).drew)).mono ?_
  rintro e w2 ⟨rfl, k2⟩
  unfold VT.leaf VT.val
  dsimp only
  go_wp2_with fail
  have kk2 := bstep (Below.refl V.heap.size V).drew k2
  refine hK0.out _ _ ?hS1P (fun hHeld1 => ?_)
  case hS1P => exact unhide SK _ kk2
  clear hK0 K0 hHeld k2
  have hHeld := hHeld1
  clear hHeld1
  try simp only [Act.put, List.setIfInBounds_toArray, List.set_cons_zero, List.set_cons_succ]
  refine wpAnyH_ready (rs := [15]) (by kernel_rfl) (by simp) ?_
  refine AllReadyH.cons rfl (fun K0 hK0 => ?_) AllReadyH.nil
  go_simp
  refine (unhide HR2 _ ((unhide JX).below kk2) ((unhide JZ).below kk2)).mono ?_
  rintro e w3 ⟨rfl, k3⟩
  unfold VT.leaf VT.val
  dsimp only
  go_wp2_with fail
  have kk3 := bstep kk2 k3
  refine hK0.out _ _ ?hS2P (fun hHeld1 => ?_)
  case hS2P => exact unhide SK _ kk3
  clear hK0 K0 hHeld k3
  have hHeld := hHeld1
  clear hHeld1
  try simp only [Act.put, List.setIfInBounds_toArray, List.set_cons_zero, List.set_cons_succ]
  refine wpAnyH_ready (rs := [16]) (by kernel_rfl) (by simp) ?_
  refine AllReadyH.cons rfl (fun K0 hK0 => ?_) AllReadyH.nil
  go_simp
  refine (unhide AV _).mono ?_
  rintro e w4 ⟨rfl, k4⟩
  unfold tval
  go_wp2_with fail
  have kk4 := bstep kk3 k4
  refine hK0.out _ _ ?hS3P (fun hHeld1 => ?_)
  case hS3P => exact unhide SK _ kk4
  clear hK0 K0 hHeld k4
  have hHeld := hHeld1
  clear hHeld1
  try simp only [Act.put, List.setIfInBounds_toArray, List.set_cons_zero, List.set_cons_succ]
  have O4 := O0.below kk4
  obtain ⟨u0, t0, t1, t2, t3, t4, t5, f0, f1, f2, f3, f4, f5⟩ := Own.fl O4
  refine wpAnyH_ready (rs := [17]) (by kernel_rfl) (by simp) ?_
  refine AllReadyH.cons rfl (fun K0 hK0 => ?_) AllReadyH.nil
  go_simp
  obtain ⟨hb0, hc0, hv0, hw0⟩ := hHeld
  refine hK0.out _ _ ?hS4P (fun hHeld1 => ?_)
  case hS4P => exact ⟨put_below w4 w.heap.size 0 _ _ _ _ _ _ hb0 (by omega), put_six w4 w.heap.size 0 _ _ _ _ _ _ hc0 (by omega), put_six w4 w.heap.size 0 _ _ _ _ _ _ hv0 (by omega), put_six w4 w.heap.size 0 _ _ _ _ _ _ hw0 (by omega)⟩
  refine wpAnyH_done (by kernel_rfl) ?_ _
  refine NoPanic.normal ?_
  go_wp2_with fail
  exact bodyPost_ret (v := tval RK RB) zR55tvalt0t1t2t3t4t5 rfl ⟨rfl, hHeld1.1⟩
theorem ewithin_any (lo hi : Bool) (bl o cap : Nat) (x y z : VT) (w : World) (hx : x.okB 2 = true) (hy : y.okB 2 = true) (hz : z.okB 2 = true) (hin : (rowT (some ⟨bl, o, none⟩) cap [x, y, z]).In w) :
  Calls Tryz.prog 55 #[.bool lo, .bool hi, .slice (some ⟨bl, o, none⟩) 3 cap] w fun e w' => e = .returned (inT lo hi x y z).val ∧ Below w.heap.size w w' := by
 cases lo <;> cases hi
 ·exact with_nn bl o cap x y z w hx hy hz hin
 ·exact with_ny bl o cap x y z w hx hy hz hin
 ·exact with_yn bl o cap x y z w hx hy hz hin
 ·exact with_yy bl o cap x y z w hx hy hz hin
theorem lf_in (lo hi : Bool) (x y z : VT) : LF (inT lo hi x y z) := lf_and _ _
end Go.Proofs.YtfdimdjmnfdecaaGreat

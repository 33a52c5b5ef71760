/- EvalArithI: laid together. -/
import Derived.Test.YtfdimdjmnfdecaaGreatMBC
import Derived.Deep.RegionHeld3
import Derived.Deep.DeepCutAuto
set_option linter.unusedVariables false
set_option linter.unusedSimpArgs false
set_option maxHeartbeats 8000000
/- The walk of EvalArith within its bounds. (Printed by mkarith.py.) -/
namespace Go.Proofs.YtfdimdjmnfdecaaGreat
open Go.RowKit
open VT (leaf mkV)
attribute [local go_sem ↓] Go.wp_at_zero Go.wp_at_succ

set_option maxRecDepth 10000 in
theorem arith_in (p q : Nat) (hp : p < 3) (hq : q < 3) (a b c : Int) (a1 : -1000 ≤ a) (a2 : a ≤ 1000) (b1 : -1000 ≤ b) (b2 : b ≤ 1000) (c1 : -1000 ≤ c) (c2 : c ≤ 1000) (w : World) :
  Calls Tryz.prog 7 #[.int .i64 a, .int .i64 b, .int .i64 c, .int .i64 (p : Int), .int .i64 (q : Int)] w fun e w' => e = .returned (.bool true) ∧ Below w.heap.size w w' := by
 have TD := hide (fun a9 w h => told_any (arL p q) (ar_all hp hq).2.2 (parseT (arL p q)).1 (parseT (arL p q)).2.1 (by rw [← (ar_all hp hq).1]) (ar_all hp hq).2.1 [(⟨#[97]⟩, numV a 0), (⟨#[98]⟩, numV b 0), (⟨#[99]⟩, numV c 0)] a9 3 w h (by unfold maxLen; simp) (fun e he => by
   rcases List.mem_cons.1 he with h | h
   ·rw [h]; exact ok_num (isB_whole (by omega) (by omega))
   rcases List.mem_cons.1 h with h | h
   ·rw [h]; exact ok_num (isB_whole (by omega) (by omega))
   rcases List.mem_cons.1 h with h | h
   ·rw [h]; exact ok_num (isB_whole (by omega) (by omega))
   ·cases h))
 rw [ar_env, ar_evs hp hq a b c a1 a2 b1 b2 c1 c2] at TD
 have NA := hide (num_in (m := a) (by omega) (by omega))
 have NB := hide (num_in (m := b) (by omega) (by omega))
 have NC := hide (num_in (m := c) (by omega) (by omega))
 have CLP := fun (w : World) => str_cell w hp
 have CLQ := fun (w : World) => str_cell w hq
 have lP : (opC p).length ≤ 1 := opC_len p
 have lQ : (opC q).length ≤ 1 := opC_len q
 have eT : arL p q = [97, 32] ++ opC p ++ [32, 98, 32] ++ opC q ++ [32, 99] := rfl
 rw [eT] at TD
 clear eT
 generalize opC p = P at *
 generalize opC q = Q at *
 obtain ⟨A1, e1⟩ : ∃ l, l = [97, 32] ++ P := ⟨_, rfl⟩
 obtain ⟨A2, e2⟩ : ∃ l, l = A1 ++ [32, 98, 32] := ⟨_, rfl⟩
 obtain ⟨A3, e3⟩ : ∃ l, l = A2 ++ Q := ⟨_, rfl⟩
 obtain ⟨A4, e4⟩ : ∃ l, l = A3 ++ [32, 99] := ⟨_, rfl⟩
 have j1 : (⟨#[97, 32]⟩ : ByteArray) ++ ⟨P.toArray⟩ = ⟨A1.toArray⟩ := by rw [e1]; exact bap_app _ _
 have j2 : (⟨A1.toArray⟩ : ByteArray) ++ ⟨#[32, 98, 32]⟩ = ⟨A2.toArray⟩ := by rw [e2]; exact bap_app _ _
 have j3 : (⟨A2.toArray⟩ : ByteArray) ++ ⟨Q.toArray⟩ = ⟨A3.toArray⟩ := by rw [e3]; exact bap_app _ _
 have j4 : (⟨A3.toArray⟩ : ByteArray) ++ ⟨#[32, 99]⟩ = ⟨A4.toArray⟩ := by rw [e4]; exact bap_app _ _
 have i1 : A1.length ≤ 10 := by rw [e1]; simp; omega
 have i2 : A2.length ≤ 20 := by rw [e2]; simp; omega
 have i3 : A3.length ≤ 30 := by rw [e3]; simp; omega
 have i4 : [97, 32] ++ P ++ [32, 98, 32] ++ Q ++ [32, 99] = A4 := by rw [e4, e3, e2, e1]
 rw [i4] at TD
 clear e1 e2 e3 e4 i4
 have p1 : (0 : Int) ≤ (p : Int) := by omega
 have p2 : (p : Int) < 3 := by omega
 have p3 : ¬ (p : Int) < 0 := by omega
 have p4 : ¬ 2 < (p : Int) := by omega
 have q1 : (0 : Int) ≤ (q : Int) := by omega
 have q2 : (q : Int) < 3 := by omega
 have q3 : ¬ (q : Int) < 0 := by omega
 have q4 : ¬ 2 < (q : Int) := by omega
 have hW := arW.eq_1 p q a b c
 have OB1 := opI_bd (k := p) 1000 1000 (by omega) (by omega) a1 a2 b1 b2
 have OB2 := opI_bd (k := 2) 1000 1000 (by omega) (by omega) b1 b2 c1 c2
 have OP1 := hide (op_any p (by omega) a b (by omega) (by omega) (by omega) (by omega))
 have OP2 := hide (op_any q (by omega) (opI p a b) c (by omega) (by omega) (by omega) (by omega))
 have OP3 := hide (op_any 2 (by omega) b c (by omega) (by omega) (by omega) (by omega))
 have OP4 := hide (op_any p (by omega) a (opI 2 b c) (by omega) (by omega) (by omega) (by omega))
 have HW := hide hW
 clear OB1 OB2 hW
 have HCP := hide CLP
 have HCQ := hide CLQ
 clear CLP CLQ
 generalize hR : arW p q a b c = R at *
 have HR0 := hide hR
 clear hR
 go_enter Tryz.func7, Tryz.ntmps7
 go_wp2_with fail
 refine (lnum_any _ _).mono ?_
 rintro e w1 ⟨rfl, k1⟩
 unfold lfv
 go_wp2_with fail
 refine (lnum_any _ _).mono ?_
 rintro e w2 ⟨rfl, k2⟩
 unfold lfv
 go_wp2_with fail
 refine (lnum_any _ _).mono ?_
 rintro e w3 ⟨rfl, k3⟩
 unfold lfv
 have B3 := bstep (bstep k1 k2) k3
 clear k1 k2 k3
 have B4 := hide (bstep B3 (below1 w3 (Obj.cells #[.string ⟨#[97]⟩, .int .i64 2, .bool false, .int .i64 a, .int .i64 0, .string ⟨#[]⟩, .slice none 0 0, .string ⟨#[98]⟩, .int .i64 2, .bool false, .int .i64 b, .int .i64 0, .string ⟨#[]⟩, .slice none 0 0, .string ⟨#[99]⟩, .int .i64 2, .bool false, .int .i64 c, .int .i64 0, .string ⟨#[]⟩, .slice none 0 0] 48)))
 have EN := hide (env3 (w := w3.alloc (Obj.cells #[.string ⟨#[97]⟩, .int .i64 2, .bool false, .int .i64 a, .int .i64 0, .string ⟨#[]⟩, .slice none 0 0, .string ⟨#[98]⟩, .int .i64 2, .bool false, .int .i64 b, .int .i64 0, .string ⟨#[]⟩, .slice none 0 0, .string ⟨#[99]⟩, .int .i64 2, .bool false, .int .i64 c, .int .i64 0, .string ⟨#[]⟩, .slice none 0 0] 48)) (g := w3.heap.size) ⟨#[97]⟩ ⟨#[98]⟩ ⟨#[99]⟩ _ _ _ (unhide NA _) (unhide NB _) (unhide NC _) (by go_simp) (six_of (by go_simp; rfl) (by go_simp; rfl) (by go_simp; rfl) (by go_simp; rfl) (by go_simp; rfl) (by go_simp; rfl)) (by go_simp) (six_of (by go_simp; rfl) (by go_simp; rfl) (by go_simp; rfl) (by go_simp; rfl) (by go_simp; rfl) (by go_simp; rfl)) (by go_simp) (six_of (by go_simp; rfl) (by go_simp; rfl) (by go_simp; rfl) (by go_simp; rfl) (by go_simp; rfl) (by go_simp; rfl)))
 clear B3 NA NB NC
 go_upto_region 4 with fail
 generalize w3.alloc (Obj.cells #[.string ⟨#[97]⟩, .int .i64 2, .bool false, .int .i64 a, .int .i64 0, .string ⟨#[]⟩, .slice none 0 0, .string ⟨#[98]⟩, .int .i64 2, .bool false, .int .i64 b, .int .i64 0, .string ⟨#[]⟩, .slice none 0 0, .string ⟨#[99]⟩, .int .i64 2, .bool false, .int .i64 c, .int .i64 0, .string ⟨#[]⟩, .slice none 0 0] 48) = V at *
 go_cut [12, 13] (fun p e wx => ∃ g az cz kidz, p = .pointer (some ⟨g, 0, none⟩) ∧ e = .int .i64 0 ∧ (wx.cell? ⟨g, 0, none⟩ = some (.int .i64 2) ∧ wx.cell? ⟨g, 1, none⟩ = some (.bool false) ∧ wx.cell? ⟨g, 2, none⟩ = some (.int .i64 R) ∧ wx.cell? ⟨g, 3, none⟩ = some (.int .i64 0) ∧ wx.cell? ⟨g, 4, none⟩ = some (.string ⟨#[]⟩) ∧ wx.cell? ⟨g, 5, none⟩ = some (.slice az 0 cz)) ∧ Hid ((VT.mk 2 false R 0 ⟨#[]⟩ az 0 cz kidz).In wx) ∧ Below V.heap.size V wx)
 case first =>
  have SK : Hid (∀ w', Below V.heap.size V w' → (Below V.heap.size V w' ∧ True)) := hide (fun w' kk => ⟨kk, trivial⟩)
  refine wp_region_noPanic ?_
  refine wp_region_held_drew (S := fun w' => Below V.heap.size V w' ∧ True) (by kernel_rfl) ?hS0a (fun hE => ?_)
  case hS0a => exact unhide SK _ (Below.refl _ _).drew
  have jda : Below V.heap.size V V.drew := (Below.refl _ _).drew
  have EN0a := hide ((unhide EN).below jda)
  clear jda
  generalize V.drew = u0a at *
  refine takeA 1 (some 65) ?va1x0 ⟨_, rfl, rfl, rfl, ?ya1x0⟩ ?_
  case ya1x0 => intro w0 hS; go_simp; try (with_reducible rfl)
  simp only [Act.put, List.setIfInBounds_toArray, List.set_cons_zero, List.set_cons_succ]
  refine takeA 7 (some 71) ?va7x0 ⟨_, rfl, rfl, rfl, ?ya7x0⟩ ?_
  case ya7x0 => intro w0 hS; go_simp; try (with_reducible rfl)
  simp only [Act.put, List.setIfInBounds_toArray, List.set_cons_zero, List.set_cons_succ]
  refine takeA 12 (some 76) ?va12x0 ⟨_, rfl, rfl, rfl, ?ya12x0⟩ ?_
  case ya12x0 => intro w0 hS; go_simp; try (with_reducible rfl)
  simp only [Act.put, List.setIfInBounds_toArray, List.set_cons_zero, List.set_cons_succ]
  refine wpAnyH_ready (rs := [0, 6, 17]) (by kernel_rfl) (by simp) ?_
  refine AllReadyH.cons rfl (fun K0 hK0 => ?_) (AllReadyH.cons rfl (fun K0 hK0 => ?_) (AllReadyH.cons rfl (fun K0 hK0 => ?_) AllReadyH.nil))
  ·skip
   go_simp
   refine hK0.out _ _ ?hS1a (fun hE1 => ?_)
   case hS1a => exact unhide SK _ (keep_alloc hE _)
   clear hK0 K0
   have j1a := below1 u0a (Obj.cells #[.string ⟨#[43]⟩, .string ⟨#[45]⟩, .string ⟨#[42]⟩] 9)
   have z1a : V.heap.size ≤ u0a.heap.size := hE.1.size
   have EN1a := hide ((unhide EN0a).below j1a)
   have CA1a := hide (cellIs_mk (w := u0a.alloc (Obj.cells #[.string ⟨#[43]⟩, .string ⟨#[45]⟩, .string ⟨#[42]⟩] 9)) (g := u0a.heap.size) (o := p) (v := .string ⟨P.toArray⟩) (unhide HCP u0a))
   generalize u0a.alloc (Obj.cells #[.string ⟨#[43]⟩, .string ⟨#[45]⟩, .string ⟨#[42]⟩] 9) = u1a at *
   generalize u0a.heap.size = g1a at *
   clear j1a
   clear hE EN0a
   have hE := hE1
   clear hE1
   try simp only [Act.put, List.setIfInBounds_toArray, List.set_cons_zero, List.set_cons_succ]
   refine takeA 2 (some 66) ?va2x1 ⟨_, rfl, rfl, rfl, ?ya2x1⟩ ?_
   case ya2x1 => intro w0 hS; go_simp; try (with_reducible rfl)
   simp only [Act.put, List.setIfInBounds_toArray, List.set_cons_zero, List.set_cons_succ]
   refine wpAnyH_ready (rs := [3, 6, 17]) (by kernel_rfl) (by simp) ?_
   refine AllReadyH.cons rfl (fun K0 hK0 => ?_) (AllReadyH.cons rfl (fun K0 hK0 => ?_) (AllReadyH.cons rfl (fun K0 hK0 => ?_) AllReadyH.nil))
   ·skip
    have hcl := (unhide CA1a : _ = _)
    go_simp
    clear hcl
    refine hK0.out _ _ ?hS2a (fun hE1 => ?_)
    case hS2a => exact hE
    clear hK0 K0 hE
    have hE := hE1
    clear hE1
    try simp only [Act.put, List.setIfInBounds_toArray, List.set_cons_zero, List.set_cons_succ]
    refine takeA 4 (some 68) ?va4x2 ⟨_, rfl, rfl, rfl, ?ya4x2⟩ ?_
    case ya4x2 => intro w0 hS; go_simp; (first | done | (with_reducible rfl) | (rw [if_neg (by omega)]; done) | skip)
    simp only [Act.put, List.setIfInBounds_toArray, List.set_cons_zero, List.set_cons_succ]
    refine takeA 5 (some 69) ?va5x2 ⟨_, rfl, rfl, rfl, ?ya5x2⟩ ?_
    case ya5x2 => intro w0 hS; go_simp; (first | done | (with_reducible rfl) | (rw [if_neg (by omega)]; done) | skip)
    simp only [Act.put, List.setIfInBounds_toArray, List.set_cons_zero, List.set_cons_succ]
    refine wpAnyH_ready (rs := [6, 17]) (by kernel_rfl) (by simp) ?_
    refine AllReadyH.cons rfl (fun K0 hK0 => ?_) (AllReadyH.cons rfl (fun K0 hK0 => ?_) AllReadyH.nil)
    ·skip
     go_simp
     refine hK0.out _ _ ?hS3a (fun hE1 => ?_)
     case hS3a => exact unhide SK _ (keep_alloc hE _)
     clear hK0 K0
     have j3a := below1 u1a (Obj.cells #[.string ⟨#[43]⟩, .string ⟨#[45]⟩, .string ⟨#[42]⟩] 9)
     have z3a : V.heap.size ≤ u1a.heap.size := hE.1.size
     have EN3a := hide ((unhide EN1a).below j3a)
     have CA3a := hide ((unhide CA1a).below j3a)
     have CB3a := hide (cellIs_mk (w := u1a.alloc (Obj.cells #[.string ⟨#[43]⟩, .string ⟨#[45]⟩, .string ⟨#[42]⟩] 9)) (g := u1a.heap.size) (o := q) (v := .string ⟨Q.toArray⟩) (unhide HCQ u1a))
     generalize u1a.alloc (Obj.cells #[.string ⟨#[43]⟩, .string ⟨#[45]⟩, .string ⟨#[42]⟩] 9) = u3a at *
     generalize u1a.heap.size = g3a at *
     clear j3a
     clear hE EN1a CA1a
     have hE := hE1
     clear hE1
     try simp only [Act.put, List.setIfInBounds_toArray, List.set_cons_zero, List.set_cons_succ]
     refine takeA 8 (some 72) ?va8x3 ⟨_, rfl, rfl, rfl, ?ya8x3⟩ ?_
     case ya8x3 => intro w0 hS; go_simp; try (with_reducible rfl)
     simp only [Act.put, List.setIfInBounds_toArray, List.set_cons_zero, List.set_cons_succ]
     refine wpAnyH_ready (rs := [9, 17]) (by kernel_rfl) (by simp) ?_
     refine AllReadyH.cons rfl (fun K0 hK0 => ?_) (AllReadyH.cons rfl (fun K0 hK0 => ?_) AllReadyH.nil)
     ·skip
      have hcl := (unhide CB3a : _ = _)
      go_simp
      clear hcl
      refine hK0.out _ _ ?hS4a (fun hE1 => ?_)
      case hS4a => exact hE
      clear hK0 K0 hE
      have hE := hE1
      clear hE1
      try simp only [Act.put, List.setIfInBounds_toArray, List.set_cons_zero, List.set_cons_succ]
      refine takeA 10 (some 74) ?va10x4 ⟨_, rfl, rfl, rfl, ?ya10x4⟩ ?_
      case ya10x4 => intro w0 hS; go_simp; (first | done | (with_reducible rfl) | (rw [if_neg (by omega)]; done) | skip)
      simp only [Act.put, List.setIfInBounds_toArray, List.set_cons_zero, List.set_cons_succ]
      refine takeA 11 (some 75) ?va11x4 ⟨_, rfl, rfl, rfl, ?ya11x4⟩ ?_
      case ya11x4 => intro w0 hS; go_simp; (first | done | (with_reducible rfl) | (rw [if_neg (by omega)]; done) | skip)
      simp only [Act.put, List.setIfInBounds_toArray, List.set_cons_zero, List.set_cons_succ]
      refine wpAnyH_ready (rs := [13, 17]) (by kernel_rfl) (by simp) ?_
      refine AllReadyH.cons rfl (fun K0 hK0 => ?_) (AllReadyH.cons rfl (fun K0 hK0 => ?_) AllReadyH.nil)
      ·skip
       go_simp
       refine (unhide TD _ _ (unhide EN3a)).mono ?_
       rintro e u5a ⟨⟨v, rfl, T, rfl, hT, hTl, hTb⟩, j5a⟩
       obtain ⟨az, cz, kidz, rfl⟩ := num_form hT hTb
       have HT := hide hT
       clear hT hTl hTb
       dsimp only [VT.val]
       go_wp2_with fail
       refine hK0.out _ _ ?hS5a (fun hE1 => ?_)
       case hS5a => exact unhide SK _ (keep_call hE j5a)
       clear hK0 K0
       have EN5a := hide ((unhide EN3a).below j5a)
       have CA5a := hide ((unhide CA3a).below j5a)
       have CB5a := hide ((unhide CB3a).below j5a)
       clear j5a
       clear hE EN3a CA3a CB3a
       have hE := hE1
       clear hE1
       try simp only [Act.put, List.setIfInBounds_toArray, List.set_cons_zero, List.set_cons_succ]
       refine takeA 14 (some 63) ?va14x5 ⟨_, rfl, rfl, rfl, ?ya14x5⟩ ?_
       case ya14x5 => intro w0 hS; go_simp; try (with_reducible rfl)
       simp only [Act.put, List.setIfInBounds_toArray, List.set_cons_zero, List.set_cons_succ]
       refine takeA 15 (some 78) ?va15x5 ⟨_, rfl, rfl, rfl, ?ya15x5⟩ ?_
       case ya15x5 => intro w0 hS; go_simp; try (with_reducible rfl)
       simp only [Act.put, List.setIfInBounds_toArray, List.set_cons_zero, List.set_cons_succ]
       refine takeA 16 (some 79) ?va16x5 ⟨_, rfl, rfl, rfl, ?ya16x5⟩ ?_
       case ya16x5 => intro w0 hS; go_simp; try (with_reducible rfl)
       simp only [Act.put, List.setIfInBounds_toArray, List.set_cons_zero, List.set_cons_succ]
       refine wpAnyH_ready (rs := [17]) (by kernel_rfl) (by simp) ?_
       refine AllReadyH.cons rfl (fun K0 hK0 => ?_) AllReadyH.nil
       go_simp
       refine hK0.out _ _ ?hS6a (fun hE1 => ?_)
       case hS6a => exact unhide SK _ (keep_alloc hE _)
       clear hK0 K0
       have j6a := below1 u5a (Obj.cells #[.int .i64 0, .bool false, .int .i64 0, .int .i64 0, .string ⟨#[]⟩, .slice none 0 0] 32)
       have z6a : V.heap.size ≤ u5a.heap.size := hE.1.size
       have EN6a := hide ((unhide EN5a).below j6a)
       have CA6a := hide ((unhide CA5a).below j6a)
       have CB6a := hide ((unhide CB5a).below j6a)
       have o6ba := Own.new u5a 32
       generalize u5a.alloc (Obj.cells #[.int .i64 0, .bool false, .int .i64 0, .int .i64 0, .string ⟨#[]⟩, .slice none 0 0] 32) = u6a at *
       generalize u5a.heap.size = g6a at *
       clear j6a
       clear hE EN5a CA5a CB5a
       have hE := hE1
       clear hE1
       try simp only [Act.put, List.setIfInBounds_toArray, List.set_cons_zero, List.set_cons_succ]
       refine wpAnyH_ready (rs := [18]) (by kernel_rfl) (by simp) ?_
       refine AllReadyH.cons rfl (fun K0 hK0 => ?_) AllReadyH.nil
       obtain ⟨⟨-, e0, e1, e2, e3, e4, e5⟩, f0, f1, f2, f3, f4, f5⟩ := id o6ba
       simp only [Nat.zero_add] at e0 e1 e2 e3 e4 e5
       go_simp
       clear e0 e1 e2 e3 e4 e5 f0 f1 f2 f3 f4 f5
       refine hK0.out _ _ ?hS7a (fun hE1 => ?_)
       case hS7a => exact unhide SK _ (set6 hE.1 (by omega) _ _ _ _ _ _)
       clear hK0 K0
       have s7ba := Own.put o6ba 2 false R 0 ⟨#[]⟩ az 0 cz
       generalize ((((((u6a.setCell ⟨g6a, 0, none⟩ (.int .i64 2)).setCell ⟨g6a, 1, none⟩ (.bool false)).setCell ⟨g6a, 2, none⟩ (.int .i64 R)).setCell ⟨g6a, 3, none⟩ (.int .i64 0)).setCell ⟨g6a, 4, none⟩ (.string ⟨#[]⟩)).setCell ⟨g6a, 5, none⟩ (.slice az 0 cz)) = u7a at *
       clear hE o6ba EN6a CA6a CB6a
       have hE := hE1
       clear hE1
       try simp only [Act.put, List.setIfInBounds_toArray, List.set_cons_zero, List.set_cons_succ]
       refine takeA 19 (some 13) ?va19x7 ⟨_, rfl, rfl, rfl, ?ya19x7⟩ ?_
       case ya19x7 => intro w0 hS; go_simp; try (with_reducible rfl)
       simp only [Act.put, List.setIfInBounds_toArray, List.set_cons_zero, List.set_cons_succ]
       refine wpAnyH_done (by kernel_rfl) ?_ _
       refine NoPanic.normal ?_
       obtain ⟨y0, y1, y2, y3, y4, y5, y6⟩ := s7ba
       simp only [Nat.zero_add] at y1 y2 y3 y4 y5 y6
       have BZ := hE.1
       clear hE
       go_wp2_with fail
       go_meet
       exact ⟨_, _, _, _, rfl, rfl, ⟨y1, y2, y3, y4, y5, y6⟩, hide (in_leaf2 (unhide HT)), BZ⟩
      ·skip
       go_simp
       refine hK0.out _ _ ?hS8a (fun hE1 => ?_)
       case hS8a => exact unhide SK _ (keep_alloc hE _)
       clear hK0 K0
       have j8a := below1 u3a (Obj.cells #[.int .i64 0, .bool false, .int .i64 0, .int .i64 0, .string ⟨#[]⟩, .slice none 0 0] 32)
       have z8a : V.heap.size ≤ u3a.heap.size := hE.1.size
       have EN8a := hide ((unhide EN3a).below j8a)
       have CA8a := hide ((unhide CA3a).below j8a)
       have CB8a := hide ((unhide CB3a).below j8a)
       have o8ba := Own.new u3a 32
       generalize u3a.alloc (Obj.cells #[.int .i64 0, .bool false, .int .i64 0, .int .i64 0, .string ⟨#[]⟩, .slice none 0 0] 32) = u8a at *
       generalize u3a.heap.size = g8a at *
       clear j8a
       clear hE EN3a CA3a CB3a
       have hE := hE1
       clear hE1
       try simp only [Act.put, List.setIfInBounds_toArray, List.set_cons_zero, List.set_cons_succ]
       refine wpAnyH_ready (rs := [13]) (by kernel_rfl) (by simp) ?_
       refine AllReadyH.cons rfl (fun K0 hK0 => ?_) AllReadyH.nil
       go_simp
       refine (unhide TD _ _ (unhide EN8a)).mono ?_
       rintro e u9a ⟨⟨v, rfl, T, rfl, hT, hTl, hTb⟩, j9a⟩
       obtain ⟨az, cz, kidz, rfl⟩ := num_form hT hTb
       have HT := hide hT
       clear hT hTl hTb
       dsimp only [VT.val]
       go_wp2_with fail
       refine hK0.out _ _ ?hS9a (fun hE1 => ?_)
       case hS9a => exact unhide SK _ (keep_call hE j9a)
       clear hK0 K0
       have o9ba := o8ba.below j9a
       have EN9a := hide ((unhide EN8a).below j9a)
       have CA9a := hide ((unhide CA8a).below j9a)
       have CB9a := hide ((unhide CB8a).below j9a)
       clear j9a
       clear hE o8ba EN8a CA8a CB8a
       have hE := hE1
       clear hE1
       try simp only [Act.put, List.setIfInBounds_toArray, List.set_cons_zero, List.set_cons_succ]
       refine takeA 14 (some 63) ?va14x9 ⟨_, rfl, rfl, rfl, ?ya14x9⟩ ?_
       case ya14x9 => intro w0 hS; go_simp; try (with_reducible rfl)
       simp only [Act.put, List.setIfInBounds_toArray, List.set_cons_zero, List.set_cons_succ]
       refine takeA 15 (some 78) ?va15x9 ⟨_, rfl, rfl, rfl, ?ya15x9⟩ ?_
       case ya15x9 => intro w0 hS; go_simp; try (with_reducible rfl)
       simp only [Act.put, List.setIfInBounds_toArray, List.set_cons_zero, List.set_cons_succ]
       refine takeA 16 (some 79) ?va16x9 ⟨_, rfl, rfl, rfl, ?ya16x9⟩ ?_
       case ya16x9 => intro w0 hS; go_simp; try (with_reducible rfl)
       simp only [Act.put, List.setIfInBounds_toArray, List.set_cons_zero, List.set_cons_succ]
       refine wpAnyH_ready (rs := [18]) (by kernel_rfl) (by simp) ?_
       refine AllReadyH.cons rfl (fun K0 hK0 => ?_) AllReadyH.nil
       obtain ⟨⟨-, e0, e1, e2, e3, e4, e5⟩, f0, f1, f2, f3, f4, f5⟩ := id o9ba
       simp only [Nat.zero_add] at e0 e1 e2 e3 e4 e5
       go_simp
       clear e0 e1 e2 e3 e4 e5 f0 f1 f2 f3 f4 f5
       refine hK0.out _ _ ?hS10a (fun hE1 => ?_)
       case hS10a => exact unhide SK _ (set6 hE.1 (by omega) _ _ _ _ _ _)
       clear hK0 K0
       have s10ba := Own.put o9ba 2 false R 0 ⟨#[]⟩ az 0 cz
       generalize ((((((u9a.setCell ⟨g8a, 0, none⟩ (.int .i64 2)).setCell ⟨g8a, 1, none⟩ (.bool false)).setCell ⟨g8a, 2, none⟩ (.int .i64 R)).setCell ⟨g8a, 3, none⟩ (.int .i64 0)).setCell ⟨g8a, 4, none⟩ (.string ⟨#[]⟩)).setCell ⟨g8a, 5, none⟩ (.slice az 0 cz)) = u10a at *
       clear hE o9ba EN9a CA9a CB9a
       have hE := hE1
       clear hE1
       try simp only [Act.put, List.setIfInBounds_toArray, List.set_cons_zero, List.set_cons_succ]
       refine takeA 19 (some 13) ?va19x10 ⟨_, rfl, rfl, rfl, ?ya19x10⟩ ?_
       case ya19x10 => intro w0 hS; go_simp; try (with_reducible rfl)
       simp only [Act.put, List.setIfInBounds_toArray, List.set_cons_zero, List.set_cons_succ]
       refine wpAnyH_done (by kernel_rfl) ?_ _
       refine NoPanic.normal ?_
       obtain ⟨y0, y1, y2, y3, y4, y5, y6⟩ := s10ba
       simp only [Nat.zero_add] at y1 y2 y3 y4 y5 y6
       have BZ := hE.1
       clear hE
       go_wp2_with fail
       go_meet
       exact ⟨_, _, _, _, rfl, rfl, ⟨y1, y2, y3, y4, y5, y6⟩, hide (in_leaf2 (unhide HT)), BZ⟩
     ·skip
      go_simp
      refine hK0.out _ _ ?hS11a (fun hE1 => ?_)
      case hS11a => exact unhide SK _ (keep_alloc hE _)
      clear hK0 K0
      have j11a := below1 u3a (Obj.cells #[.int .i64 0, .bool false, .int .i64 0, .int .i64 0, .string ⟨#[]⟩, .slice none 0 0] 32)
      have z11a : V.heap.size ≤ u3a.heap.size := hE.1.size
      have EN11a := hide ((unhide EN3a).below j11a)
      have CA11a := hide ((unhide CA3a).below j11a)
      have CB11a := hide ((unhide CB3a).below j11a)
      have o11ba := Own.new u3a 32
      generalize u3a.alloc (Obj.cells #[.int .i64 0, .bool false, .int .i64 0, .int .i64 0, .string ⟨#[]⟩, .slice none 0 0] 32) = u11a at *
      generalize u3a.heap.size = g11a at *
      clear j11a
      clear hE EN3a CA3a CB3a
      have hE := hE1
      clear hE1
      try simp only [Act.put, List.setIfInBounds_toArray, List.set_cons_zero, List.set_cons_succ]
      refine wpAnyH_ready (rs := [9]) (by kernel_rfl) (by simp) ?_
      refine AllReadyH.cons rfl (fun K0 hK0 => ?_) AllReadyH.nil
      have hcl := (unhide CB11a : _ = _)
      go_simp
      clear hcl
      refine hK0.out _ _ ?hS12a (fun hE1 => ?_)
      case hS12a => exact hE
      clear hK0 K0 hE
      have hE := hE1
      clear hE1
      try simp only [Act.put, List.setIfInBounds_toArray, List.set_cons_zero, List.set_cons_succ]
      refine takeA 10 (some 74) ?va10x12 ⟨_, rfl, rfl, rfl, ?ya10x12⟩ ?_
      case ya10x12 => intro w0 hS; go_simp; (first | done | (with_reducible rfl) | (rw [if_neg (by omega)]; done) | skip)
      simp only [Act.put, List.setIfInBounds_toArray, List.set_cons_zero, List.set_cons_succ]
      refine takeA 11 (some 75) ?va11x12 ⟨_, rfl, rfl, rfl, ?ya11x12⟩ ?_
      case ya11x12 => intro w0 hS; go_simp; (first | done | (with_reducible rfl) | (rw [if_neg (by omega)]; done) | skip)
      simp only [Act.put, List.setIfInBounds_toArray, List.set_cons_zero, List.set_cons_succ]
      refine wpAnyH_ready (rs := [13]) (by kernel_rfl) (by simp) ?_
      refine AllReadyH.cons rfl (fun K0 hK0 => ?_) AllReadyH.nil
      go_simp
      refine (unhide TD _ _ (unhide EN11a)).mono ?_
      rintro e u13a ⟨⟨v, rfl, T, rfl, hT, hTl, hTb⟩, j13a⟩
      obtain ⟨az, cz, kidz, rfl⟩ := num_form hT hTb
      have HT := hide hT
      clear hT hTl hTb
      dsimp only [VT.val]
      go_wp2_with fail
      refine hK0.out _ _ ?hS13a (fun hE1 => ?_)
      case hS13a => exact unhide SK _ (keep_call hE j13a)
      clear hK0 K0
      have o13ba := o11ba.below j13a
      have EN13a := hide ((unhide EN11a).below j13a)
      have CA13a := hide ((unhide CA11a).below j13a)
      have CB13a := hide ((unhide CB11a).below j13a)
      clear j13a
      clear hE o11ba EN11a CA11a CB11a
      have hE := hE1
      clear hE1
      try simp only [Act.put, List.setIfInBounds_toArray, List.set_cons_zero, List.set_cons_succ]
      refine takeA 14 (some 63) ?va14x13 ⟨_, rfl, rfl, rfl, ?ya14x13⟩ ?_
      case ya14x13 => intro w0 hS; go_simp; try (with_reducible rfl)
      simp only [Act.put, List.setIfInBounds_toArray, List.set_cons_zero, List.set_cons_succ]
      refine takeA 15 (some 78) ?va15x13 ⟨_, rfl, rfl, rfl, ?ya15x13⟩ ?_
      case ya15x13 => intro w0 hS; go_simp; try (with_reducible rfl)
      simp only [Act.put, List.setIfInBounds_toArray, List.set_cons_zero, List.set_cons_succ]
      refine takeA 16 (some 79) ?va16x13 ⟨_, rfl, rfl, rfl, ?ya16x13⟩ ?_
      case ya16x13 => intro w0 hS; go_simp; try (with_reducible rfl)
      simp only [Act.put, List.setIfInBounds_toArray, List.set_cons_zero, List.set_cons_succ]
      refine wpAnyH_ready (rs := [18]) (by kernel_rfl) (by simp) ?_
      refine AllReadyH.cons rfl (fun K0 hK0 => ?_) AllReadyH.nil
      obtain ⟨⟨-, e0, e1, e2, e3, e4, e5⟩, f0, f1, f2, f3, f4, f5⟩ := id o13ba
      simp only [Nat.zero_add] at e0 e1 e2 e3 e4 e5
      go_simp
      clear e0 e1 e2 e3 e4 e5 f0 f1 f2 f3 f4 f5
      refine hK0.out _ _ ?hS14a (fun hE1 => ?_)
      case hS14a => exact unhide SK _ (set6 hE.1 (by omega) _ _ _ _ _ _)
      clear hK0 K0
      have s14ba := Own.put o13ba 2 false R 0 ⟨#[]⟩ az 0 cz
      generalize ((((((u13a.setCell ⟨g11a, 0, none⟩ (.int .i64 2)).setCell ⟨g11a, 1, none⟩ (.bool false)).setCell ⟨g11a, 2, none⟩ (.int .i64 R)).setCell ⟨g11a, 3, none⟩ (.int .i64 0)).setCell ⟨g11a, 4, none⟩ (.string ⟨#[]⟩)).setCell ⟨g11a, 5, none⟩ (.slice az 0 cz)) = u14a at *
      clear hE o13ba EN13a CA13a CB13a
      have hE := hE1
      clear hE1
      try simp only [Act.put, List.setIfInBounds_toArray, List.set_cons_zero, List.set_cons_succ]
      refine takeA 19 (some 13) ?va19x14 ⟨_, rfl, rfl, rfl, ?ya19x14⟩ ?_
      case ya19x14 => intro w0 hS; go_simp; try (with_reducible rfl)
      simp only [Act.put, List.setIfInBounds_toArray, List.set_cons_zero, List.set_cons_succ]
      refine wpAnyH_done (by kernel_rfl) ?_ _
      refine NoPanic.normal ?_
      obtain ⟨y0, y1, y2, y3, y4, y5, y6⟩ := s14ba
      simp only [Nat.zero_add] at y1 y2 y3 y4 y5 y6
      have BZ := hE.1
      clear hE
      go_wp2_with fail
      go_meet
      exact ⟨_, _, _, _, rfl, rfl, ⟨y1, y2, y3, y4, y5, y6⟩, hide (in_leaf2 (unhide HT)), BZ⟩
    ·skip
     go_simp
     refine hK0.out _ _ ?hS15a (fun hE1 => ?_)
     case hS15a => exact unhide SK _ (keep_alloc hE _)
     clear hK0 K0
     have j15a := below1 u1a (Obj.cells #[.int .i64 0, .bool false, .int .i64 0, .int .i64 0, .string ⟨#[]⟩, .slice none 0 0] 32)
     have z15a : V.heap.size ≤ u1a.heap.size := hE.1.size
     have EN15a := hide ((unhide EN1a).below j15a)
     have CA15a := hide ((unhide CA1a).below j15a)
     have o15ba := Own.new u1a 32
     generalize u1a.alloc (Obj.cells #[.int .i64 0, .bool false, .int .i64 0, .int .i64 0, .string ⟨#[]⟩, .slice none 0 0] 32) = u15a at *
     generalize u1a.heap.size = g15a at *
     clear j15a
     clear hE EN1a CA1a
     have hE := hE1
     clear hE1
     try simp only [Act.put, List.setIfInBounds_toArray, List.set_cons_zero, List.set_cons_succ]
     refine wpAnyH_ready (rs := [6]) (by kernel_rfl) (by simp) ?_
     refine AllReadyH.cons rfl (fun K0 hK0 => ?_) AllReadyH.nil
     go_simp
     refine hK0.out _ _ ?hS16a (fun hE1 => ?_)
     case hS16a => exact unhide SK _ (keep_alloc hE _)
     clear hK0 K0
     have j16a := below1 u15a (Obj.cells #[.string ⟨#[43]⟩, .string ⟨#[45]⟩, .string ⟨#[42]⟩] 9)
     have z16a : V.heap.size ≤ u15a.heap.size := hE.1.size
     have o16ba := o15ba.below j16a
     have EN16a := hide ((unhide EN15a).below j16a)
     have CA16a := hide ((unhide CA15a).below j16a)
     have CB16a := hide (cellIs_mk (w := u15a.alloc (Obj.cells #[.string ⟨#[43]⟩, .string ⟨#[45]⟩, .string ⟨#[42]⟩] 9)) (g := u15a.heap.size) (o := q) (v := .string ⟨Q.toArray⟩) (unhide HCQ u15a))
     have ne16ba : g15a ≠ u15a.heap.size := Nat.ne_of_lt o15ba.1.1
     generalize u15a.alloc (Obj.cells #[.string ⟨#[43]⟩, .string ⟨#[45]⟩, .string ⟨#[42]⟩] 9) = u16a at *
     generalize u15a.heap.size = g16a at *
     clear j16a
     clear hE o15ba EN15a CA15a
     have hE := hE1
     clear hE1
     try simp only [Act.put, List.setIfInBounds_toArray, List.set_cons_zero, List.set_cons_succ]
     refine takeA 8 (some 72) ?va8x16 ⟨_, rfl, rfl, rfl, ?ya8x16⟩ ?_
     case ya8x16 => intro w0 hS; go_simp; try (with_reducible rfl)
     simp only [Act.put, List.setIfInBounds_toArray, List.set_cons_zero, List.set_cons_succ]
     refine wpAnyH_ready (rs := [9]) (by kernel_rfl) (by simp) ?_
     refine AllReadyH.cons rfl (fun K0 hK0 => ?_) AllReadyH.nil
     have hcl := (unhide CB16a : _ = _)
     go_simp
     clear hcl
     refine hK0.out _ _ ?hS17a (fun hE1 => ?_)
     case hS17a => exact hE
     clear hK0 K0 hE
     have hE := hE1
     clear hE1
     try simp only [Act.put, List.setIfInBounds_toArray, List.set_cons_zero, List.set_cons_succ]
     refine takeA 10 (some 74) ?va10x17 ⟨_, rfl, rfl, rfl, ?ya10x17⟩ ?_
     case ya10x17 => intro w0 hS; go_simp; (first | done | (with_reducible rfl) | (rw [if_neg (by omega)]; done) | skip)
     simp only [Act.put, List.setIfInBounds_toArray, List.set_cons_zero, List.set_cons_succ]
     refine takeA 11 (some 75) ?va11x17 ⟨_, rfl, rfl, rfl, ?ya11x17⟩ ?_
     case ya11x17 => intro w0 hS; go_simp; (first | done | (with_reducible rfl) | (rw [if_neg (by omega)]; done) | skip)
     simp only [Act.put, List.setIfInBounds_toArray, List.set_cons_zero, List.set_cons_succ]
     refine wpAnyH_ready (rs := [13]) (by kernel_rfl) (by simp) ?_
     refine AllReadyH.cons rfl (fun K0 hK0 => ?_) AllReadyH.nil
     go_simp
     refine (unhide TD _ _ (unhide EN16a)).mono ?_
     rintro e u18a ⟨⟨v, rfl, T, rfl, hT, hTl, hTb⟩, j18a⟩
     obtain ⟨az, cz, kidz, rfl⟩ := num_form hT hTb
     have HT := hide hT
     clear hT hTl hTb
     dsimp only [VT.val]
     go_wp2_with fail
     refine hK0.out _ _ ?hS18a (fun hE1 => ?_)
     case hS18a => exact unhide SK _ (keep_call hE j18a)
     clear hK0 K0
     have o18ba := o16ba.below j18a
     have EN18a := hide ((unhide EN16a).below j18a)
     have CA18a := hide ((unhide CA16a).below j18a)
     have CB18a := hide ((unhide CB16a).below j18a)
     clear j18a
     clear hE o16ba EN16a CA16a CB16a
     have hE := hE1
     clear hE1
     try simp only [Act.put, List.setIfInBounds_toArray, List.set_cons_zero, List.set_cons_succ]
     refine takeA 14 (some 63) ?va14x18 ⟨_, rfl, rfl, rfl, ?ya14x18⟩ ?_
     case ya14x18 => intro w0 hS; go_simp; try (with_reducible rfl)
     simp only [Act.put, List.setIfInBounds_toArray, List.set_cons_zero, List.set_cons_succ]
     refine takeA 15 (some 78) ?va15x18 ⟨_, rfl, rfl, rfl, ?ya15x18⟩ ?_
     case ya15x18 => intro w0 hS; go_simp; try (with_reducible rfl)
     simp only [Act.put, List.setIfInBounds_toArray, List.set_cons_zero, List.set_cons_succ]
     refine takeA 16 (some 79) ?va16x18 ⟨_, rfl, rfl, rfl, ?ya16x18⟩ ?_
     case ya16x18 => intro w0 hS; go_simp; try (with_reducible rfl)
     simp only [Act.put, List.setIfInBounds_toArray, List.set_cons_zero, List.set_cons_succ]
     refine wpAnyH_ready (rs := [18]) (by kernel_rfl) (by simp) ?_
     refine AllReadyH.cons rfl (fun K0 hK0 => ?_) AllReadyH.nil
     obtain ⟨⟨-, e0, e1, e2, e3, e4, e5⟩, f0, f1, f2, f3, f4, f5⟩ := id o18ba
     simp only [Nat.zero_add] at e0 e1 e2 e3 e4 e5
     go_simp
     clear e0 e1 e2 e3 e4 e5 f0 f1 f2 f3 f4 f5
     refine hK0.out _ _ ?hS19a (fun hE1 => ?_)
     case hS19a => exact unhide SK _ (set6 hE.1 (by omega) _ _ _ _ _ _)
     clear hK0 K0
     have s19ba := Own.put o18ba 2 false R 0 ⟨#[]⟩ az 0 cz
     generalize ((((((u18a.setCell ⟨g15a, 0, none⟩ (.int .i64 2)).setCell ⟨g15a, 1, none⟩ (.bool false)).setCell ⟨g15a, 2, none⟩ (.int .i64 R)).setCell ⟨g15a, 3, none⟩ (.int .i64 0)).setCell ⟨g15a, 4, none⟩ (.string ⟨#[]⟩)).setCell ⟨g15a, 5, none⟩ (.slice az 0 cz)) = u19a at *
     clear hE o18ba EN18a CA18a CB18a
     have hE := hE1
     clear hE1
     try simp only [Act.put, List.setIfInBounds_toArray, List.set_cons_zero, List.set_cons_succ]
     refine takeA 19 (some 13) ?va19x19 ⟨_, rfl, rfl, rfl, ?ya19x19⟩ ?_
     case ya19x19 => intro w0 hS; go_simp; try (with_reducible rfl)
     simp only [Act.put, List.setIfInBounds_toArray, List.set_cons_zero, List.set_cons_succ]
     refine wpAnyH_done (by kernel_rfl) ?_ _
     refine NoPanic.normal ?_
     obtain ⟨y0, y1, y2, y3, y4, y5, y6⟩ := s19ba
     simp only [Nat.zero_add] at y1 y2 y3 y4 y5 y6
     have BZ := hE.1
     clear hE
     go_wp2_with fail
     go_meet
     exact ⟨_, _, _, _, rfl, rfl, ⟨y1, y2, y3, y4, y5, y6⟩, hide (in_leaf2 (unhide HT)), BZ⟩
   ·skip
    go_simp
    refine hK0.out _ _ ?hS20a (fun hE1 => ?_)
    case hS20a => exact unhide SK _ (keep_alloc hE _)
    clear hK0 K0
    have j20a := below1 u1a (Obj.cells #[.string ⟨#[43]⟩, .string ⟨#[45]⟩, .string ⟨#[42]⟩] 9)
    have z20a : V.heap.size ≤ u1a.heap.size := hE.1.size
    have EN20a := hide ((unhide EN1a).below j20a)
    have CA20a := hide ((unhide CA1a).below j20a)
    have CB20a := hide (cellIs_mk (w := u1a.alloc (Obj.cells #[.string ⟨#[43]⟩, .string ⟨#[45]⟩, .string ⟨#[42]⟩] 9)) (g := u1a.heap.size) (o := q) (v := .string ⟨Q.toArray⟩) (unhide HCQ u1a))
    generalize u1a.alloc (Obj.cells #[.string ⟨#[43]⟩, .string ⟨#[45]⟩, .string ⟨#[42]⟩] 9) = u20a at *
    generalize u1a.heap.size = g20a at *
    clear j20a
    clear hE EN1a CA1a
    have hE := hE1
    clear hE1
    try simp only [Act.put, List.setIfInBounds_toArray, List.set_cons_zero, List.set_cons_succ]
    refine takeA 8 (some 72) ?va8x20 ⟨_, rfl, rfl, rfl, ?ya8x20⟩ ?_
    case ya8x20 => intro w0 hS; go_simp; try (with_reducible rfl)
    simp only [Act.put, List.setIfInBounds_toArray, List.set_cons_zero, List.set_cons_succ]
    refine wpAnyH_ready (rs := [3, 9, 17]) (by kernel_rfl) (by simp) ?_
    refine AllReadyH.cons rfl (fun K0 hK0 => ?_) (AllReadyH.cons rfl (fun K0 hK0 => ?_) (AllReadyH.cons rfl (fun K0 hK0 => ?_) AllReadyH.nil))
    ·skip
     have hcl := (unhide CA20a : _ = _)
     go_simp
     clear hcl
     refine hK0.out _ _ ?hS21a (fun hE1 => ?_)
     case hS21a => exact hE
     clear hK0 K0 hE
     have hE := hE1
     clear hE1
     try simp only [Act.put, List.setIfInBounds_toArray, List.set_cons_zero, List.set_cons_succ]
     refine takeA 4 (some 68) ?va4x21 ⟨_, rfl, rfl, rfl, ?ya4x21⟩ ?_
     case ya4x21 => intro w0 hS; go_simp; (first | done | (with_reducible rfl) | (rw [if_neg (by omega)]; done) | skip)
     simp only [Act.put, List.setIfInBounds_toArray, List.set_cons_zero, List.set_cons_succ]
     refine takeA 5 (some 69) ?va5x21 ⟨_, rfl, rfl, rfl, ?ya5x21⟩ ?_
     case ya5x21 => intro w0 hS; go_simp; (first | done | (with_reducible rfl) | (rw [if_neg (by omega)]; done) | skip)
     simp only [Act.put, List.setIfInBounds_toArray, List.set_cons_zero, List.set_cons_succ]
     refine wpAnyH_ready (rs := [9, 17]) (by kernel_rfl) (by simp) ?_
     refine AllReadyH.cons rfl (fun K0 hK0 => ?_) (AllReadyH.cons rfl (fun K0 hK0 => ?_) AllReadyH.nil)
     ·skip
      have hcl := (unhide CB20a : _ = _)
      go_simp
      clear hcl
      refine hK0.out _ _ ?hS22a (fun hE1 => ?_)
      case hS22a => exact hE
      clear hK0 K0 hE
      have hE := hE1
      clear hE1
      try simp only [Act.put, List.setIfInBounds_toArray, List.set_cons_zero, List.set_cons_succ]
      refine takeA 10 (some 74) ?va10x22 ⟨_, rfl, rfl, rfl, ?ya10x22⟩ ?_
      case ya10x22 => intro w0 hS; go_simp; (first | done | (with_reducible rfl) | (rw [if_neg (by omega)]; done) | skip)
      simp only [Act.put, List.setIfInBounds_toArray, List.set_cons_zero, List.set_cons_succ]
      refine takeA 11 (some 75) ?va11x22 ⟨_, rfl, rfl, rfl, ?ya11x22⟩ ?_
      case ya11x22 => intro w0 hS; go_simp; (first | done | (with_reducible rfl) | (rw [if_neg (by omega)]; done) | skip)
      simp only [Act.put, List.setIfInBounds_toArray, List.set_cons_zero, List.set_cons_succ]
      refine wpAnyH_ready (rs := [13, 17]) (by kernel_rfl) (by simp) ?_
      refine AllReadyH.cons rfl (fun K0 hK0 => ?_) (AllReadyH.cons rfl (fun K0 hK0 => ?_) AllReadyH.nil)
      ·skip
       go_simp
       refine (unhide TD _ _ (unhide EN20a)).mono ?_
       rintro e u23a ⟨⟨v, rfl, T, rfl, hT, hTl, hTb⟩, j23a⟩
       obtain ⟨az, cz, kidz, rfl⟩ := num_form hT hTb
       have HT := hide hT
       clear hT hTl hTb
       dsimp only [VT.val]
       go_wp2_with fail
       refine hK0.out _ _ ?hS23a (fun hE1 => ?_)
       case hS23a => exact unhide SK _ (keep_call hE j23a)
       clear hK0 K0
       have EN23a := hide ((unhide EN20a).below j23a)
       have CA23a := hide ((unhide CA20a).below j23a)
       have CB23a := hide ((unhide CB20a).below j23a)
       clear j23a
       clear hE EN20a CA20a CB20a
       have hE := hE1
       clear hE1
       try simp only [Act.put, List.setIfInBounds_toArray, List.set_cons_zero, List.set_cons_succ]
       refine takeA 14 (some 63) ?va14x23 ⟨_, rfl, rfl, rfl, ?ya14x23⟩ ?_
       case ya14x23 => intro w0 hS; go_simp; try (with_reducible rfl)
       simp only [Act.put, List.setIfInBounds_toArray, List.set_cons_zero, List.set_cons_succ]
       refine takeA 15 (some 78) ?va15x23 ⟨_, rfl, rfl, rfl, ?ya15x23⟩ ?_
       case ya15x23 => intro w0 hS; go_simp; try (with_reducible rfl)
       simp only [Act.put, List.setIfInBounds_toArray, List.set_cons_zero, List.set_cons_succ]
       refine takeA 16 (some 79) ?va16x23 ⟨_, rfl, rfl, rfl, ?ya16x23⟩ ?_
       case ya16x23 => intro w0 hS; go_simp; try (with_reducible rfl)
       simp only [Act.put, List.setIfInBounds_toArray, List.set_cons_zero, List.set_cons_succ]
       refine wpAnyH_ready (rs := [17]) (by kernel_rfl) (by simp) ?_
       refine AllReadyH.cons rfl (fun K0 hK0 => ?_) AllReadyH.nil
       go_simp
       refine hK0.out _ _ ?hS24a (fun hE1 => ?_)
       case hS24a => exact unhide SK _ (keep_alloc hE _)
       clear hK0 K0
       have j24a := below1 u23a (Obj.cells #[.int .i64 0, .bool false, .int .i64 0, .int .i64 0, .string ⟨#[]⟩, .slice none 0 0] 32)
       have z24a : V.heap.size ≤ u23a.heap.size := hE.1.size
       have EN24a := hide ((unhide EN23a).below j24a)
       have CA24a := hide ((unhide CA23a).below j24a)
       have CB24a := hide ((unhide CB23a).below j24a)
       have o24ba := Own.new u23a 32
       generalize u23a.alloc (Obj.cells #[.int .i64 0, .bool false, .int .i64 0, .int .i64 0, .string ⟨#[]⟩, .slice none 0 0] 32) = u24a at *
       generalize u23a.heap.size = g24a at *
       clear j24a
       clear hE EN23a CA23a CB23a
       have hE := hE1
       clear hE1
       try simp only [Act.put, List.setIfInBounds_toArray, List.set_cons_zero, List.set_cons_succ]
       refine wpAnyH_ready (rs := [18]) (by kernel_rfl) (by simp) ?_
       refine AllReadyH.cons rfl (fun K0 hK0 => ?_) AllReadyH.nil
       obtain ⟨⟨-, e0, e1, e2, e3, e4, e5⟩, f0, f1, f2, f3, f4, f5⟩ := id o24ba
       simp only [Nat.zero_add] at e0 e1 e2 e3 e4 e5
       go_simp
       clear e0 e1 e2 e3 e4 e5 f0 f1 f2 f3 f4 f5
       refine hK0.out _ _ ?hS25a (fun hE1 => ?_)
       case hS25a => exact unhide SK _ (set6 hE.1 (by omega) _ _ _ _ _ _)
       clear hK0 K0
       have s25ba := Own.put o24ba 2 false R 0 ⟨#[]⟩ az 0 cz
       generalize ((((((u24a.setCell ⟨g24a, 0, none⟩ (.int .i64 2)).setCell ⟨g24a, 1, none⟩ (.bool false)).setCell ⟨g24a, 2, none⟩ (.int .i64 R)).setCell ⟨g24a, 3, none⟩ (.int .i64 0)).setCell ⟨g24a, 4, none⟩ (.string ⟨#[]⟩)).setCell ⟨g24a, 5, none⟩ (.slice az 0 cz)) = u25a at *
       clear hE o24ba EN24a CA24a CB24a
       have hE := hE1
       clear hE1
       try simp only [Act.put, List.setIfInBounds_toArray, List.set_cons_zero, List.set_cons_succ]
       refine takeA 19 (some 13) ?va19x25 ⟨_, rfl, rfl, rfl, ?ya19x25⟩ ?_
       case ya19x25 => intro w0 hS; go_simp; try (with_reducible rfl)
       simp only [Act.put, List.setIfInBounds_toArray, List.set_cons_zero, List.set_cons_succ]
       refine wpAnyH_done (by kernel_rfl) ?_ _
       refine NoPanic.normal ?_
       obtain ⟨y0, y1, y2, y3, y4, y5, y6⟩ := s25ba
       simp only [Nat.zero_add] at y1 y2 y3 y4 y5 y6
       have BZ := hE.1
       clear hE
       go_wp2_with fail
       go_meet
       exact ⟨_, _, _, _, rfl, rfl, ⟨y1, y2, y3, y4, y5, y6⟩, hide (in_leaf2 (unhide HT)), BZ⟩
      ·skip
       go_simp
       refine hK0.out _ _ ?hS26a (fun hE1 => ?_)
       case hS26a => exact unhide SK _ (keep_alloc hE _)
       clear hK0 K0
       have j26a := below1 u20a (Obj.cells #[.int .i64 0, .bool false, .int .i64 0, .int .i64 0, .string ⟨#[]⟩, .slice none 0 0] 32)
       have z26a : V.heap.size ≤ u20a.heap.size := hE.1.size
       have EN26a := hide ((unhide EN20a).below j26a)
       have CA26a := hide ((unhide CA20a).below j26a)
       have CB26a := hide ((unhide CB20a).below j26a)
       have o26ba := Own.new u20a 32
       generalize u20a.alloc (Obj.cells #[.int .i64 0, .bool false, .int .i64 0, .int .i64 0, .string ⟨#[]⟩, .slice none 0 0] 32) = u26a at *
       generalize u20a.heap.size = g26a at *
       clear j26a
       clear hE EN20a CA20a CB20a
       have hE := hE1
       clear hE1
       try simp only [Act.put, List.setIfInBounds_toArray, List.set_cons_zero, List.set_cons_succ]
       refine wpAnyH_ready (rs := [13]) (by kernel_rfl) (by simp) ?_
       refine AllReadyH.cons rfl (fun K0 hK0 => ?_) AllReadyH.nil
       go_simp
       refine (unhide TD _ _ (unhide EN26a)).mono ?_
       rintro e u27a ⟨⟨v, rfl, T, rfl, hT, hTl, hTb⟩, j27a⟩
       obtain ⟨az, cz, kidz, rfl⟩ := num_form hT hTb
       have HT := hide hT
       clear hT hTl hTb
       dsimp only [VT.val]
       go_wp2_with fail
       refine hK0.out _ _ ?hS27a (fun hE1 => ?_)
       case hS27a => exact unhide SK _ (keep_call hE j27a)
       clear hK0 K0
       have o27ba := o26ba.below j27a
       have EN27a := hide ((unhide EN26a).below j27a)
       have CA27a := hide ((unhide CA26a).below j27a)
       have CB27a := hide ((unhide CB26a).below j27a)
       clear j27a
       clear hE o26ba EN26a CA26a CB26a
       have hE := hE1
       clear hE1
       try simp only [Act.put, List.setIfInBounds_toArray, List.set_cons_zero, List.set_cons_succ]
       refine takeA 14 (some 63) ?va14x27 ⟨_, rfl, rfl, rfl, ?ya14x27⟩ ?_
       case ya14x27 => intro w0 hS; go_simp; try (with_reducible rfl)
       simp only [Act.put, List.setIfInBounds_toArray, List.set_cons_zero, List.set_cons_succ]
       refine takeA 15 (some 78) ?va15x27 ⟨_, rfl, rfl, rfl, ?ya15x27⟩ ?_
       case ya15x27 => intro w0 hS; go_simp; try (with_reducible rfl)
       simp only [Act.put, List.setIfInBounds_toArray, List.set_cons_zero, List.set_cons_succ]
       refine takeA 16 (some 79) ?va16x27 ⟨_, rfl, rfl, rfl, ?ya16x27⟩ ?_
       case ya16x27 => intro w0 hS; go_simp; try (with_reducible rfl)
       simp only [Act.put, List.setIfInBounds_toArray, List.set_cons_zero, List.set_cons_succ]
       refine wpAnyH_ready (rs := [18]) (by kernel_rfl) (by simp) ?_
       refine AllReadyH.cons rfl (fun K0 hK0 => ?_) AllReadyH.nil
       obtain ⟨⟨-, e0, e1, e2, e3, e4, e5⟩, f0, f1, f2, f3, f4, f5⟩ := id o27ba
       simp only [Nat.zero_add] at e0 e1 e2 e3 e4 e5
       go_simp
       clear e0 e1 e2 e3 e4 e5 f0 f1 f2 f3 f4 f5
       refine hK0.out _ _ ?hS28a (fun hE1 => ?_)
       case hS28a => exact unhide SK _ (set6 hE.1 (by omega) _ _ _ _ _ _)
       clear hK0 K0
       have s28ba := Own.put o27ba 2 false R 0 ⟨#[]⟩ az 0 cz
       generalize ((((((u27a.setCell ⟨g26a, 0, none⟩ (.int .i64 2)).setCell ⟨g26a, 1, none⟩ (.bool false)).setCell ⟨g26a, 2, none⟩ (.int .i64 R)).setCell ⟨g26a, 3, none⟩ (.int .i64 0)).setCell ⟨g26a, 4, none⟩ (.string ⟨#[]⟩)).setCell ⟨g26a, 5, none⟩ (.slice az 0 cz)) = u28a at *
       clear hE o27ba EN27a CA27a CB27a
       have hE := hE1
       clear hE1
       try simp only [Act.put, List.setIfInBounds_toArray, List.set_cons_zero, List.set_cons_succ]
       refine takeA 19 (some 13) ?va19x28 ⟨_, rfl, rfl, rfl, ?ya19x28⟩ ?_
       case ya19x28 => intro w0 hS; go_simp; try (with_reducible rfl)
       simp only [Act.put, List.setIfInBounds_toArray, List.set_cons_zero, List.set_cons_succ]
       refine wpAnyH_done (by kernel_rfl) ?_ _
       refine NoPanic.normal ?_
       obtain ⟨y0, y1, y2, y3, y4, y5, y6⟩ := s28ba
       simp only [Nat.zero_add] at y1 y2 y3 y4 y5 y6
       have BZ := hE.1
       clear hE
       go_wp2_with fail
       go_meet
       exact ⟨_, _, _, _, rfl, rfl, ⟨y1, y2, y3, y4, y5, y6⟩, hide (in_leaf2 (unhide HT)), BZ⟩
     ·skip
      go_simp
      refine hK0.out _ _ ?hS29a (fun hE1 => ?_)
      case hS29a => exact unhide SK _ (keep_alloc hE _)
      clear hK0 K0
      have j29a := below1 u20a (Obj.cells #[.int .i64 0, .bool false, .int .i64 0, .int .i64 0, .string ⟨#[]⟩, .slice none 0 0] 32)
      have z29a : V.heap.size ≤ u20a.heap.size := hE.1.size
      have EN29a := hide ((unhide EN20a).below j29a)
      have CA29a := hide ((unhide CA20a).below j29a)
      have CB29a := hide ((unhide CB20a).below j29a)
      have o29ba := Own.new u20a 32
      generalize u20a.alloc (Obj.cells #[.int .i64 0, .bool false, .int .i64 0, .int .i64 0, .string ⟨#[]⟩, .slice none 0 0] 32) = u29a at *
      generalize u20a.heap.size = g29a at *
      clear j29a
      clear hE EN20a CA20a CB20a
      have hE := hE1
      clear hE1
      try simp only [Act.put, List.setIfInBounds_toArray, List.set_cons_zero, List.set_cons_succ]
      refine wpAnyH_ready (rs := [9]) (by kernel_rfl) (by simp) ?_
      refine AllReadyH.cons rfl (fun K0 hK0 => ?_) AllReadyH.nil
      have hcl := (unhide CB29a : _ = _)
      go_simp
      clear hcl
      refine hK0.out _ _ ?hS30a (fun hE1 => ?_)
      case hS30a => exact hE
      clear hK0 K0 hE
      have hE := hE1
      clear hE1
      try simp only [Act.put, List.setIfInBounds_toArray, List.set_cons_zero, List.set_cons_succ]
      refine takeA 10 (some 74) ?va10x30 ⟨_, rfl, rfl, rfl, ?ya10x30⟩ ?_
      case ya10x30 => intro w0 hS; go_simp; (first | done | (with_reducible rfl) | (rw [if_neg (by omega)]; done) | skip)
      simp only [Act.put, List.setIfInBounds_toArray, List.set_cons_zero, List.set_cons_succ]
      refine takeA 11 (some 75) ?va11x30 ⟨_, rfl, rfl, rfl, ?ya11x30⟩ ?_
      case ya11x30 => intro w0 hS; go_simp; (first | done | (with_reducible rfl) | (rw [if_neg (by omega)]; done) | skip)
      simp only [Act.put, List.setIfInBounds_toArray, List.set_cons_zero, List.set_cons_succ]
      refine wpAnyH_ready (rs := [13]) (by kernel_rfl) (by simp) ?_
      refine AllReadyH.cons rfl (fun K0 hK0 => ?_) AllReadyH.nil
      go_simp
      refine (unhide TD _ _ (unhide EN29a)).mono ?_
      rintro e u31a ⟨⟨v, rfl, T, rfl, hT, hTl, hTb⟩, j31a⟩
      obtain ⟨az, cz, kidz, rfl⟩ := num_form hT hTb
      have HT := hide hT
      clear hT hTl hTb
      dsimp only [VT.val]
      go_wp2_with fail
      refine hK0.out _ _ ?hS31a (fun hE1 => ?_)
      case hS31a => exact unhide SK _ (keep_call hE j31a)
      clear hK0 K0
      have o31ba := o29ba.below j31a
      have EN31a := hide ((unhide EN29a).below j31a)
      have CA31a := hide ((unhide CA29a).below j31a)
      have CB31a := hide ((unhide CB29a).below j31a)
      clear j31a
      clear hE o29ba EN29a CA29a CB29a
      have hE := hE1
      clear hE1
      try simp only [Act.put, List.setIfInBounds_toArray, List.set_cons_zero, List.set_cons_succ]
      refine takeA 14 (some 63) ?va14x31 ⟨_, rfl, rfl, rfl, ?ya14x31⟩ ?_
      case ya14x31 => intro w0 hS; go_simp; try (with_reducible rfl)
      simp only [Act.put, List.setIfInBounds_toArray, List.set_cons_zero, List.set_cons_succ]
      refine takeA 15 (some 78) ?va15x31 ⟨_, rfl, rfl, rfl, ?ya15x31⟩ ?_
      case ya15x31 => intro w0 hS; go_simp; try (with_reducible rfl)
      simp only [Act.put, List.setIfInBounds_toArray, List.set_cons_zero, List.set_cons_succ]
      refine takeA 16 (some 79) ?va16x31 ⟨_, rfl, rfl, rfl, ?ya16x31⟩ ?_
      case ya16x31 => intro w0 hS; go_simp; try (with_reducible rfl)
      simp only [Act.put, List.setIfInBounds_toArray, List.set_cons_zero, List.set_cons_succ]
      refine wpAnyH_ready (rs := [18]) (by kernel_rfl) (by simp) ?_
      refine AllReadyH.cons rfl (fun K0 hK0 => ?_) AllReadyH.nil
      obtain ⟨⟨-, e0, e1, e2, e3, e4, e5⟩, f0, f1, f2, f3, f4, f5⟩ := id o31ba
      simp only [Nat.zero_add] at e0 e1 e2 e3 e4 e5
      go_simp
      clear e0 e1 e2 e3 e4 e5 f0 f1 f2 f3 f4 f5
      refine hK0.out _ _ ?hS32a (fun hE1 => ?_)
      case hS32a => exact unhide SK _ (set6 hE.1 (by omega) _ _ _ _ _ _)
      clear hK0 K0
      have s32ba := Own.put o31ba 2 false R 0 ⟨#[]⟩ az 0 cz
      generalize ((((((u31a.setCell ⟨g29a, 0, none⟩ (.int .i64 2)).setCell ⟨g29a, 1, none⟩ (.bool false)).setCell ⟨g29a, 2, none⟩ (.int .i64 R)).setCell ⟨g29a, 3, none⟩ (.int .i64 0)).setCell ⟨g29a, 4, none⟩ (.string ⟨#[]⟩)).setCell ⟨g29a, 5, none⟩ (.slice az 0 cz)) = u32a at *
      clear hE o31ba EN31a CA31a CB31a
      have hE := hE1
      clear hE1
      try simp only [Act.put, List.setIfInBounds_toArray, List.set_cons_zero, List.set_cons_succ]
      refine takeA 19 (some 13) ?va19x32 ⟨_, rfl, rfl, rfl, ?ya19x32⟩ ?_
      case ya19x32 => intro w0 hS; go_simp; try (with_reducible rfl)
      simp only [Act.put, List.setIfInBounds_toArray, List.set_cons_zero, List.set_cons_succ]
      refine wpAnyH_done (by kernel_rfl) ?_ _
      refine NoPanic.normal ?_
      obtain ⟨y0, y1, y2, y3, y4, y5, y6⟩ := s32ba
      simp only [Nat.zero_add] at y1 y2 y3 y4 y5 y6
      have BZ := hE.1
      clear hE
      go_wp2_with fail
      go_meet
      exact ⟨_, _, _, _, rfl, rfl, ⟨y1, y2, y3, y4, y5, y6⟩, hide (in_leaf2 (unhide HT)), BZ⟩
    ·skip
     have hcl := (unhide CB20a : _ = _)
     go_simp
     clear hcl
     refine hK0.out _ _ ?hS33a (fun hE1 => ?_)
     case hS33a => exact hE
     clear hK0 K0 hE
     have hE := hE1
     clear hE1
     try simp only [Act.put, List.setIfInBounds_toArray, List.set_cons_zero, List.set_cons_succ]
     refine wpAnyH_ready (rs := [3, 17]) (by kernel_rfl) (by simp) ?_
     refine AllReadyH.cons rfl (fun K0 hK0 => ?_) (AllReadyH.cons rfl (fun K0 hK0 => ?_) AllReadyH.nil)
     ·skip
      have hcl := (unhide CA20a : _ = _)
      go_simp
      clear hcl
      refine hK0.out _ _ ?hS34a (fun hE1 => ?_)
      case hS34a => exact hE
      clear hK0 K0 hE
      have hE := hE1
      clear hE1
      try simp only [Act.put, List.setIfInBounds_toArray, List.set_cons_zero, List.set_cons_succ]
      refine takeA 4 (some 68) ?va4x34 ⟨_, rfl, rfl, rfl, ?ya4x34⟩ ?_
      case ya4x34 => intro w0 hS; go_simp; (first | done | (with_reducible rfl) | (rw [if_neg (by omega)]; done) | skip)
      simp only [Act.put, List.setIfInBounds_toArray, List.set_cons_zero, List.set_cons_succ]
      refine takeA 5 (some 69) ?va5x34 ⟨_, rfl, rfl, rfl, ?ya5x34⟩ ?_
      case ya5x34 => intro w0 hS; go_simp; (first | done | (with_reducible rfl) | (rw [if_neg (by omega)]; done) | skip)
      simp only [Act.put, List.setIfInBounds_toArray, List.set_cons_zero, List.set_cons_succ]
      refine takeA 10 (some 74) ?va10x34 ⟨_, rfl, rfl, rfl, ?ya10x34⟩ ?_
      case ya10x34 => intro w0 hS; go_simp; (first | done | (with_reducible rfl) | (rw [if_neg (by omega)]; done) | skip)
      simp only [Act.put, List.setIfInBounds_toArray, List.set_cons_zero, List.set_cons_succ]
      refine takeA 11 (some 75) ?va11x34 ⟨_, rfl, rfl, rfl, ?ya11x34⟩ ?_
      case ya11x34 => intro w0 hS; go_simp; (first | done | (with_reducible rfl) | (rw [if_neg (by omega)]; done) | skip)
      simp only [Act.put, List.setIfInBounds_toArray, List.set_cons_zero, List.set_cons_succ]
      refine wpAnyH_ready (rs := [13, 17]) (by kernel_rfl) (by simp) ?_
      refine AllReadyH.cons rfl (fun K0 hK0 => ?_) (AllReadyH.cons rfl (fun K0 hK0 => ?_) AllReadyH.nil)
      ·skip
       go_simp
       refine (unhide TD _ _ (unhide EN20a)).mono ?_
       rintro e u35a ⟨⟨v, rfl, T, rfl, hT, hTl, hTb⟩, j35a⟩
       obtain ⟨az, cz, kidz, rfl⟩ := num_form hT hTb
       have HT := hide hT
       clear hT hTl hTb
       dsimp only [VT.val]
       go_wp2_with fail
       refine hK0.out _ _ ?hS35a (fun hE1 => ?_)
       case hS35a => exact unhide SK _ (keep_call hE j35a)
       clear hK0 K0
       have EN35a := hide ((unhide EN20a).below j35a)
       have CA35a := hide ((unhide CA20a).below j35a)
       have CB35a := hide ((unhide CB20a).below j35a)
       clear j35a
       clear hE EN20a CA20a CB20a
       have hE := hE1
       clear hE1
       try simp only [Act.put, List.setIfInBounds_toArray, List.set_cons_zero, List.set_cons_succ]
       refine takeA 14 (some 63) ?va14x35 ⟨_, rfl, rfl, rfl, ?ya14x35⟩ ?_
       case ya14x35 => intro w0 hS; go_simp; try (with_reducible rfl)
       simp only [Act.put, List.setIfInBounds_toArray, List.set_cons_zero, List.set_cons_succ]
       refine takeA 15 (some 78) ?va15x35 ⟨_, rfl, rfl, rfl, ?ya15x35⟩ ?_
       case ya15x35 => intro w0 hS; go_simp; try (with_reducible rfl)
       simp only [Act.put, List.setIfInBounds_toArray, List.set_cons_zero, List.set_cons_succ]
       refine takeA 16 (some 79) ?va16x35 ⟨_, rfl, rfl, rfl, ?ya16x35⟩ ?_
       case ya16x35 => intro w0 hS; go_simp; try (with_reducible rfl)
       simp only [Act.put, List.setIfInBounds_toArray, List.set_cons_zero, List.set_cons_succ]
       refine wpAnyH_ready (rs := [17]) (by kernel_rfl) (by simp) ?_
       refine AllReadyH.cons rfl (fun K0 hK0 => ?_) AllReadyH.nil
       go_simp
       refine hK0.out _ _ ?hS36a (fun hE1 => ?_)
       case hS36a => exact unhide SK _ (keep_alloc hE _)
       clear hK0 K0
       have j36a := below1 u35a (Obj.cells #[.int .i64 0, .bool false, .int .i64 0, .int .i64 0, .string ⟨#[]⟩, .slice none 0 0] 32)
       have z36a : V.heap.size ≤ u35a.heap.size := hE.1.size
       have EN36a := hide ((unhide EN35a).below j36a)
       have CA36a := hide ((unhide CA35a).below j36a)
       have CB36a := hide ((unhide CB35a).below j36a)
       have o36ba := Own.new u35a 32
       generalize u35a.alloc (Obj.cells #[.int .i64 0, .bool false, .int .i64 0, .int .i64 0, .string ⟨#[]⟩, .slice none 0 0] 32) = u36a at *
       generalize u35a.heap.size = g36a at *
       clear j36a
       clear hE EN35a CA35a CB35a
       have hE := hE1
       clear hE1
       try simp only [Act.put, List.setIfInBounds_toArray, List.set_cons_zero, List.set_cons_succ]
       refine wpAnyH_ready (rs := [18]) (by kernel_rfl) (by simp) ?_
       refine AllReadyH.cons rfl (fun K0 hK0 => ?_) AllReadyH.nil
       obtain ⟨⟨-, e0, e1, e2, e3, e4, e5⟩, f0, f1, f2, f3, f4, f5⟩ := id o36ba
       simp only [Nat.zero_add] at e0 e1 e2 e3 e4 e5
       go_simp
       clear e0 e1 e2 e3 e4 e5 f0 f1 f2 f3 f4 f5
       refine hK0.out _ _ ?hS37a (fun hE1 => ?_)
       case hS37a => exact unhide SK _ (set6 hE.1 (by omega) _ _ _ _ _ _)
       clear hK0 K0
       have s37ba := Own.put o36ba 2 false R 0 ⟨#[]⟩ az 0 cz
       generalize ((((((u36a.setCell ⟨g36a, 0, none⟩ (.int .i64 2)).setCell ⟨g36a, 1, none⟩ (.bool false)).setCell ⟨g36a, 2, none⟩ (.int .i64 R)).setCell ⟨g36a, 3, none⟩ (.int .i64 0)).setCell ⟨g36a, 4, none⟩ (.string ⟨#[]⟩)).setCell ⟨g36a, 5, none⟩ (.slice az 0 cz)) = u37a at *
       clear hE o36ba EN36a CA36a CB36a
       have hE := hE1
       clear hE1
       try simp only [Act.put, List.setIfInBounds_toArray, List.set_cons_zero, List.set_cons_succ]
       refine takeA 19 (some 13) ?va19x37 ⟨_, rfl, rfl, rfl, ?ya19x37⟩ ?_
       case ya19x37 => intro w0 hS; go_simp; try (with_reducible rfl)
       simp only [Act.put, List.setIfInBounds_toArray, List.set_cons_zero, List.set_cons_succ]
       refine wpAnyH_done (by kernel_rfl) ?_ _
       refine NoPanic.normal ?_
       obtain ⟨y0, y1, y2, y3, y4, y5, y6⟩ := s37ba
       simp only [Nat.zero_add] at y1 y2 y3 y4 y5 y6
       have BZ := hE.1
       clear hE
       go_wp2_with fail
       go_meet
       exact ⟨_, _, _, _, rfl, rfl, ⟨y1, y2, y3, y4, y5, y6⟩, hide (in_leaf2 (unhide HT)), BZ⟩
      ·skip
       go_simp
       refine hK0.out _ _ ?hS38a (fun hE1 => ?_)
       case hS38a => exact unhide SK _ (keep_alloc hE _)
       clear hK0 K0
       have j38a := below1 u20a (Obj.cells #[.int .i64 0, .bool false, .int .i64 0, .int .i64 0, .string ⟨#[]⟩, .slice none 0 0] 32)
       have z38a : V.heap.size ≤ u20a.heap.size := hE.1.size
       have EN38a := hide ((unhide EN20a).below j38a)
       have CA38a := hide ((unhide CA20a).below j38a)
       have CB38a := hide ((unhide CB20a).below j38a)
       have o38ba := Own.new u20a 32
       generalize u20a.alloc (Obj.cells #[.int .i64 0, .bool false, .int .i64 0, .int .i64 0, .string ⟨#[]⟩, .slice none 0 0] 32) = u38a at *
       generalize u20a.heap.size = g38a at *
       clear j38a
       clear hE EN20a CA20a CB20a
       have hE := hE1
       clear hE1
       try simp only [Act.put, List.setIfInBounds_toArray, List.set_cons_zero, List.set_cons_succ]
       refine wpAnyH_ready (rs := [13]) (by kernel_rfl) (by simp) ?_
       refine AllReadyH.cons rfl (fun K0 hK0 => ?_) AllReadyH.nil
       go_simp
       refine (unhide TD _ _ (unhide EN38a)).mono ?_
       rintro e u39a ⟨⟨v, rfl, T, rfl, hT, hTl, hTb⟩, j39a⟩
       obtain ⟨az, cz, kidz, rfl⟩ := num_form hT hTb
       have HT := hide hT
       clear hT hTl hTb
       dsimp only [VT.val]
       go_wp2_with fail
       refine hK0.out _ _ ?hS39a (fun hE1 => ?_)
       case hS39a => exact unhide SK _ (keep_call hE j39a)
       clear hK0 K0
       have o39ba := o38ba.below j39a
       have EN39a := hide ((unhide EN38a).below j39a)
       have CA39a := hide ((unhide CA38a).below j39a)
       have CB39a := hide ((unhide CB38a).below j39a)
       clear j39a
       clear hE o38ba EN38a CA38a CB38a
       have hE := hE1
       clear hE1
       try simp only [Act.put, List.setIfInBounds_toArray, List.set_cons_zero, List.set_cons_succ]
       refine takeA 14 (some 63) ?va14x39 ⟨_, rfl, rfl, rfl, ?ya14x39⟩ ?_
       case ya14x39 => intro w0 hS; go_simp; try (with_reducible rfl)
       simp only [Act.put, List.setIfInBounds_toArray, List.set_cons_zero, List.set_cons_succ]
       refine takeA 15 (some 78) ?va15x39 ⟨_, rfl, rfl, rfl, ?ya15x39⟩ ?_
       case ya15x39 => intro w0 hS; go_simp; try (with_reducible rfl)
       simp only [Act.put, List.setIfInBounds_toArray, List.set_cons_zero, List.set_cons_succ]
       refine takeA 16 (some 79) ?va16x39 ⟨_, rfl, rfl, rfl, ?ya16x39⟩ ?_
       case ya16x39 => intro w0 hS; go_simp; try (with_reducible rfl)
       simp only [Act.put, List.setIfInBounds_toArray, List.set_cons_zero, List.set_cons_succ]
       refine wpAnyH_ready (rs := [18]) (by kernel_rfl) (by simp) ?_
       refine AllReadyH.cons rfl (fun K0 hK0 => ?_) AllReadyH.nil
       obtain ⟨⟨-, e0, e1, e2, e3, e4, e5⟩, f0, f1, f2, f3, f4, f5⟩ := id o39ba
       simp only [Nat.zero_add] at e0 e1 e2 e3 e4 e5
       go_simp
       clear e0 e1 e2 e3 e4 e5 f0 f1 f2 f3 f4 f5
       refine hK0.out _ _ ?hS40a (fun hE1 => ?_)
       case hS40a => exact unhide SK _ (set6 hE.1 (by omega) _ _ _ _ _ _)
       clear hK0 K0
       have s40ba := Own.put o39ba 2 false R 0 ⟨#[]⟩ az 0 cz
       generalize ((((((u39a.setCell ⟨g38a, 0, none⟩ (.int .i64 2)).setCell ⟨g38a, 1, none⟩ (.bool false)).setCell ⟨g38a, 2, none⟩ (.int .i64 R)).setCell ⟨g38a, 3, none⟩ (.int .i64 0)).setCell ⟨g38a, 4, none⟩ (.string ⟨#[]⟩)).setCell ⟨g38a, 5, none⟩ (.slice az 0 cz)) = u40a at *
       clear hE o39ba EN39a CA39a CB39a
       have hE := hE1
       clear hE1
       try simp only [Act.put, List.setIfInBounds_toArray, List.set_cons_zero, List.set_cons_succ]
       refine takeA 19 (some 13) ?va19x40 ⟨_, rfl, rfl, rfl, ?ya19x40⟩ ?_
       case ya19x40 => intro w0 hS; go_simp; try (with_reducible rfl)
       simp only [Act.put, List.setIfInBounds_toArray, List.set_cons_zero, List.set_cons_succ]
       refine wpAnyH_done (by kernel_rfl) ?_ _
       refine NoPanic.normal ?_
       obtain ⟨y0, y1, y2, y3, y4, y5, y6⟩ := s40ba
       simp only [Nat.zero_add] at y1 y2 y3 y4 y5 y6
       have BZ := hE.1
       clear hE
       go_wp2_with fail
       go_meet
       exact ⟨_, _, _, _, rfl, rfl, ⟨y1, y2, y3, y4, y5, y6⟩, hide (in_leaf2 (unhide HT)), BZ⟩
     ·skip
      go_simp
      refine hK0.out _ _ ?hS41a (fun hE1 => ?_)
      case hS41a => exact unhide SK _ (keep_alloc hE _)
      clear hK0 K0
      have j41a := below1 u20a (Obj.cells #[.int .i64 0, .bool false, .int .i64 0, .int .i64 0, .string ⟨#[]⟩, .slice none 0 0] 32)
      have z41a : V.heap.size ≤ u20a.heap.size := hE.1.size
      have EN41a := hide ((unhide EN20a).below j41a)
      have CA41a := hide ((unhide CA20a).below j41a)
      have CB41a := hide ((unhide CB20a).below j41a)
      have o41ba := Own.new u20a 32
      generalize u20a.alloc (Obj.cells #[.int .i64 0, .bool false, .int .i64 0, .int .i64 0, .string ⟨#[]⟩, .slice none 0 0] 32) = u41a at *
      generalize u20a.heap.size = g41a at *
      clear j41a
      clear hE EN20a CA20a CB20a
      have hE := hE1
      clear hE1
      try simp only [Act.put, List.setIfInBounds_toArray, List.set_cons_zero, List.set_cons_succ]
      refine wpAnyH_ready (rs := [3]) (by kernel_rfl) (by simp) ?_
      refine AllReadyH.cons rfl (fun K0 hK0 => ?_) AllReadyH.nil
      have hcl := (unhide CA41a : _ = _)
      go_simp
      clear hcl
      refine hK0.out _ _ ?hS42a (fun hE1 => ?_)
      case hS42a => exact hE
      clear hK0 K0 hE
      have hE := hE1
      clear hE1
      try simp only [Act.put, List.setIfInBounds_toArray, List.set_cons_zero, List.set_cons_succ]
      refine takeA 4 (some 68) ?va4x42 ⟨_, rfl, rfl, rfl, ?ya4x42⟩ ?_
      case ya4x42 => intro w0 hS; go_simp; (first | done | (with_reducible rfl) | (rw [if_neg (by omega)]; done) | skip)
      simp only [Act.put, List.setIfInBounds_toArray, List.set_cons_zero, List.set_cons_succ]
      refine takeA 5 (some 69) ?va5x42 ⟨_, rfl, rfl, rfl, ?ya5x42⟩ ?_
      case ya5x42 => intro w0 hS; go_simp; (first | done | (with_reducible rfl) | (rw [if_neg (by omega)]; done) | skip)
      simp only [Act.put, List.setIfInBounds_toArray, List.set_cons_zero, List.set_cons_succ]
      refine takeA 10 (some 74) ?va10x42 ⟨_, rfl, rfl, rfl, ?ya10x42⟩ ?_
      case ya10x42 => intro w0 hS; go_simp; (first | done | (with_reducible rfl) | (rw [if_neg (by omega)]; done) | skip)
      simp only [Act.put, List.setIfInBounds_toArray, List.set_cons_zero, List.set_cons_succ]
      refine takeA 11 (some 75) ?va11x42 ⟨_, rfl, rfl, rfl, ?ya11x42⟩ ?_
      case ya11x42 => intro w0 hS; go_simp; (first | done | (with_reducible rfl) | (rw [if_neg (by omega)]; done) | skip)
      simp only [Act.put, List.setIfInBounds_toArray, List.set_cons_zero, List.set_cons_succ]
      refine wpAnyH_ready (rs := [13]) (by kernel_rfl) (by simp) ?_
      refine AllReadyH.cons rfl (fun K0 hK0 => ?_) AllReadyH.nil
      go_simp
      refine (unhide TD _ _ (unhide EN41a)).mono ?_
      rintro e u43a ⟨⟨v, rfl, T, rfl, hT, hTl, hTb⟩, j43a⟩
      obtain ⟨az, cz, kidz, rfl⟩ := num_form hT hTb
      have HT := hide hT
      clear hT hTl hTb
      dsimp only [VT.val]
      go_wp2_with fail
      refine hK0.out _ _ ?hS43a (fun hE1 => ?_)
      case hS43a => exact unhide SK _ (keep_call hE j43a)
      clear hK0 K0
      have o43ba := o41ba.below j43a
      have EN43a := hide ((unhide EN41a).below j43a)
      have CA43a := hide ((unhide CA41a).below j43a)
      have CB43a := hide ((unhide CB41a).below j43a)
      clear j43a
      clear hE o41ba EN41a CA41a CB41a
      have hE := hE1
      clear hE1
      try simp only [Act.put, List.setIfInBounds_toArray, List.set_cons_zero, List.set_cons_succ]
      refine takeA 14 (some 63) ?va14x43 ⟨_, rfl, rfl, rfl, ?ya14x43⟩ ?_
      case ya14x43 => intro w0 hS; go_simp; try (with_reducible rfl)
      simp only [Act.put, List.setIfInBounds_toArray, List.set_cons_zero, List.set_cons_succ]
      refine takeA 15 (some 78) ?va15x43 ⟨_, rfl, rfl, rfl, ?ya15x43⟩ ?_
      case ya15x43 => intro w0 hS; go_simp; try (with_reducible rfl)
      simp only [Act.put, List.setIfInBounds_toArray, List.set_cons_zero, List.set_cons_succ]
      refine takeA 16 (some 79) ?va16x43 ⟨_, rfl, rfl, rfl, ?ya16x43⟩ ?_
      case ya16x43 => intro w0 hS; go_simp; try (with_reducible rfl)
      simp only [Act.put, List.setIfInBounds_toArray, List.set_cons_zero, List.set_cons_succ]
      refine wpAnyH_ready (rs := [18]) (by kernel_rfl) (by simp) ?_
      refine AllReadyH.cons rfl (fun K0 hK0 => ?_) AllReadyH.nil
      obtain ⟨⟨-, e0, e1, e2, e3, e4, e5⟩, f0, f1, f2, f3, f4, f5⟩ := id o43ba
      simp only [Nat.zero_add] at e0 e1 e2 e3 e4 e5
      go_simp
      clear e0 e1 e2 e3 e4 e5 f0 f1 f2 f3 f4 f5
      refine hK0.out _ _ ?hS44a (fun hE1 => ?_)
      case hS44a => exact unhide SK _ (set6 hE.1 (by omega) _ _ _ _ _ _)
      clear hK0 K0
      have s44ba := Own.put o43ba 2 false R 0 ⟨#[]⟩ az 0 cz
      generalize ((((((u43a.setCell ⟨g41a, 0, none⟩ (.int .i64 2)).setCell ⟨g41a, 1, none⟩ (.bool false)).setCell ⟨g41a, 2, none⟩ (.int .i64 R)).setCell ⟨g41a, 3, none⟩ (.int .i64 0)).setCell ⟨g41a, 4, none⟩ (.string ⟨#[]⟩)).setCell ⟨g41a, 5, none⟩ (.slice az 0 cz)) = u44a at *
      clear hE o43ba EN43a CA43a CB43a
      have hE := hE1
      clear hE1
      try simp only [Act.put, List.setIfInBounds_toArray, List.set_cons_zero, List.set_cons_succ]
      refine takeA 19 (some 13) ?va19x44 ⟨_, rfl, rfl, rfl, ?ya19x44⟩ ?_
      case ya19x44 => intro w0 hS; go_simp; try (with_reducible rfl)
      simp only [Act.put, List.setIfInBounds_toArray, List.set_cons_zero, List.set_cons_succ]
      refine wpAnyH_done (by kernel_rfl) ?_ _
      refine NoPanic.normal ?_
      obtain ⟨y0, y1, y2, y3, y4, y5, y6⟩ := s44ba
      simp only [Nat.zero_add] at y1 y2 y3 y4 y5 y6
      have BZ := hE.1
      clear hE
      go_wp2_with fail
      go_meet
      exact ⟨_, _, _, _, rfl, rfl, ⟨y1, y2, y3, y4, y5, y6⟩, hide (in_leaf2 (unhide HT)), BZ⟩
    ·skip
     go_simp
     refine hK0.out _ _ ?hS45a (fun hE1 => ?_)
     case hS45a => exact unhide SK _ (keep_alloc hE _)
     clear hK0 K0
     have j45a := below1 u20a (Obj.cells #[.int .i64 0, .bool false, .int .i64 0, .int .i64 0, .string ⟨#[]⟩, .slice none 0 0] 32)
     have z45a : V.heap.size ≤ u20a.heap.size := hE.1.size
     have EN45a := hide ((unhide EN20a).below j45a)
     have CA45a := hide ((unhide CA20a).below j45a)
     have CB45a := hide ((unhide CB20a).below j45a)
     have o45ba := Own.new u20a 32
     generalize u20a.alloc (Obj.cells #[.int .i64 0, .bool false, .int .i64 0, .int .i64 0, .string ⟨#[]⟩, .slice none 0 0] 32) = u45a at *
     generalize u20a.heap.size = g45a at *
     clear j45a
     clear hE EN20a CA20a CB20a
     have hE := hE1
     clear hE1
     try simp only [Act.put, List.setIfInBounds_toArray, List.set_cons_zero, List.set_cons_succ]
     refine wpAnyH_ready (rs := [3, 9]) (by kernel_rfl) (by simp) ?_
     refine AllReadyH.cons rfl (fun K0 hK0 => ?_) (AllReadyH.cons rfl (fun K0 hK0 => ?_) AllReadyH.nil)
     ·skip
      have hcl := (unhide CA45a : _ = _)
      go_simp
      clear hcl
      refine hK0.out _ _ ?hS46a (fun hE1 => ?_)
      case hS46a => exact hE
      clear hK0 K0 hE
      have hE := hE1
      clear hE1
      try simp only [Act.put, List.setIfInBounds_toArray, List.set_cons_zero, List.set_cons_succ]
      refine takeA 4 (some 68) ?va4x46 ⟨_, rfl, rfl, rfl, ?ya4x46⟩ ?_
      case ya4x46 => intro w0 hS; go_simp; (first | done | (with_reducible rfl) | (rw [if_neg (by omega)]; done) | skip)
      simp only [Act.put, List.setIfInBounds_toArray, List.set_cons_zero, List.set_cons_succ]
      refine takeA 5 (some 69) ?va5x46 ⟨_, rfl, rfl, rfl, ?ya5x46⟩ ?_
      case ya5x46 => intro w0 hS; go_simp; (first | done | (with_reducible rfl) | (rw [if_neg (by omega)]; done) | skip)
      simp only [Act.put, List.setIfInBounds_toArray, List.set_cons_zero, List.set_cons_succ]
      refine wpAnyH_ready (rs := [9]) (by kernel_rfl) (by simp) ?_
      refine AllReadyH.cons rfl (fun K0 hK0 => ?_) AllReadyH.nil
      have hcl := (unhide CB45a : _ = _)
      go_simp
      clear hcl
      refine hK0.out _ _ ?hS47a (fun hE1 => ?_)
      case hS47a => exact hE
      clear hK0 K0 hE
      have hE := hE1
      clear hE1
      try simp only [Act.put, List.setIfInBounds_toArray, List.set_cons_zero, List.set_cons_succ]
      refine takeA 10 (some 74) ?va10x47 ⟨_, rfl, rfl, rfl, ?ya10x47⟩ ?_
      case ya10x47 => intro w0 hS; go_simp; (first | done | (with_reducible rfl) | (rw [if_neg (by omega)]; done) | skip)
      simp only [Act.put, List.setIfInBounds_toArray, List.set_cons_zero, List.set_cons_succ]
      refine takeA 11 (some 75) ?va11x47 ⟨_, rfl, rfl, rfl, ?ya11x47⟩ ?_
      case ya11x47 => intro w0 hS; go_simp; (first | done | (with_reducible rfl) | (rw [if_neg (by omega)]; done) | skip)
      simp only [Act.put, List.setIfInBounds_toArray, List.set_cons_zero, List.set_cons_succ]
      refine wpAnyH_ready (rs := [13]) (by kernel_rfl) (by simp) ?_
      refine AllReadyH.cons rfl (fun K0 hK0 => ?_) AllReadyH.nil
      go_simp
      refine (unhide TD _ _ (unhide EN45a)).mono ?_
      rintro e u48a ⟨⟨v, rfl, T, rfl, hT, hTl, hTb⟩, j48a⟩
      obtain ⟨az, cz, kidz, rfl⟩ := num_form hT hTb
      have HT := hide hT
      clear hT hTl hTb
      dsimp only [VT.val]
      go_wp2_with fail
      refine hK0.out _ _ ?hS48a (fun hE1 => ?_)
      case hS48a => exact unhide SK _ (keep_call hE j48a)
      clear hK0 K0
      have o48ba := o45ba.below j48a
      have EN48a := hide ((unhide EN45a).below j48a)
      have CA48a := hide ((unhide CA45a).below j48a)
      have CB48a := hide ((unhide CB45a).below j48a)
      clear j48a
      clear hE o45ba EN45a CA45a CB45a
      have hE := hE1
      clear hE1
      try simp only [Act.put, List.setIfInBounds_toArray, List.set_cons_zero, List.set_cons_succ]
      refine takeA 14 (some 63) ?va14x48 ⟨_, rfl, rfl, rfl, ?ya14x48⟩ ?_
      case ya14x48 => intro w0 hS; go_simp; try (with_reducible rfl)
      simp only [Act.put, List.setIfInBounds_toArray, List.set_cons_zero, List.set_cons_succ]
      refine takeA 15 (some 78) ?va15x48 ⟨_, rfl, rfl, rfl, ?ya15x48⟩ ?_
      case ya15x48 => intro w0 hS; go_simp; try (with_reducible rfl)
      simp only [Act.put, List.setIfInBounds_toArray, List.set_cons_zero, List.set_cons_succ]
      refine takeA 16 (some 79) ?va16x48 ⟨_, rfl, rfl, rfl, ?ya16x48⟩ ?_
      case ya16x48 => intro w0 hS; go_simp; try (with_reducible rfl)
      simp only [Act.put, List.setIfInBounds_toArray, List.set_cons_zero, List.set_cons_succ]
      refine wpAnyH_ready (rs := [18]) (by kernel_rfl) (by simp) ?_
      refine AllReadyH.cons rfl (fun K0 hK0 => ?_) AllReadyH.nil
      obtain ⟨⟨-, e0, e1, e2, e3, e4, e5⟩, f0, f1, f2, f3, f4, f5⟩ := id o48ba
      simp only [Nat.zero_add] at e0 e1 e2 e3 e4 e5
      go_simp
      clear e0 e1 e2 e3 e4 e5 f0 f1 f2 f3 f4 f5
      refine hK0.out _ _ ?hS49a (fun hE1 => ?_)
      case hS49a => exact unhide SK _ (set6 hE.1 (by omega) _ _ _ _ _ _)
      clear hK0 K0
      have s49ba := Own.put o48ba 2 false R 0 ⟨#[]⟩ az 0 cz
      generalize ((((((u48a.setCell ⟨g45a, 0, none⟩ (.int .i64 2)).setCell ⟨g45a, 1, none⟩ (.bool false)).setCell ⟨g45a, 2, none⟩ (.int .i64 R)).setCell ⟨g45a, 3, none⟩ (.int .i64 0)).setCell ⟨g45a, 4, none⟩ (.string ⟨#[]⟩)).setCell ⟨g45a, 5, none⟩ (.slice az 0 cz)) = u49a at *
      clear hE o48ba EN48a CA48a CB48a
      have hE := hE1
      clear hE1
      try simp only [Act.put, List.setIfInBounds_toArray, List.set_cons_zero, List.set_cons_succ]
      refine takeA 19 (some 13) ?va19x49 ⟨_, rfl, rfl, rfl, ?ya19x49⟩ ?_
      case ya19x49 => intro w0 hS; go_simp; try (with_reducible rfl)
      simp only [Act.put, List.setIfInBounds_toArray, List.set_cons_zero, List.set_cons_succ]
      refine wpAnyH_done (by kernel_rfl) ?_ _
      refine NoPanic.normal ?_
      obtain ⟨y0, y1, y2, y3, y4, y5, y6⟩ := s49ba
      simp only [Nat.zero_add] at y1 y2 y3 y4 y5 y6
      have BZ := hE.1
      clear hE
      go_wp2_with fail
      go_meet
      exact ⟨_, _, _, _, rfl, rfl, ⟨y1, y2, y3, y4, y5, y6⟩, hide (in_leaf2 (unhide HT)), BZ⟩
     ·skip
      have hcl := (unhide CB45a : _ = _)
      go_simp
      clear hcl
      refine hK0.out _ _ ?hS50a (fun hE1 => ?_)
      case hS50a => exact hE
      clear hK0 K0 hE
      have hE := hE1
      clear hE1
      try simp only [Act.put, List.setIfInBounds_toArray, List.set_cons_zero, List.set_cons_succ]
      refine wpAnyH_ready (rs := [3]) (by kernel_rfl) (by simp) ?_
      refine AllReadyH.cons rfl (fun K0 hK0 => ?_) AllReadyH.nil
      have hcl := (unhide CA45a : _ = _)
      go_simp
      clear hcl
      refine hK0.out _ _ ?hS51a (fun hE1 => ?_)
      case hS51a => exact hE
      clear hK0 K0 hE
      have hE := hE1
      clear hE1
      try simp only [Act.put, List.setIfInBounds_toArray, List.set_cons_zero, List.set_cons_succ]
      refine takeA 4 (some 68) ?va4x51 ⟨_, rfl, rfl, rfl, ?ya4x51⟩ ?_
      case ya4x51 => intro w0 hS; go_simp; (first | done | (with_reducible rfl) | (rw [if_neg (by omega)]; done) | skip)
      simp only [Act.put, List.setIfInBounds_toArray, List.set_cons_zero, List.set_cons_succ]
      refine takeA 5 (some 69) ?va5x51 ⟨_, rfl, rfl, rfl, ?ya5x51⟩ ?_
      case ya5x51 => intro w0 hS; go_simp; (first | done | (with_reducible rfl) | (rw [if_neg (by omega)]; done) | skip)
      simp only [Act.put, List.setIfInBounds_toArray, List.set_cons_zero, List.set_cons_succ]
      refine takeA 10 (some 74) ?va10x51 ⟨_, rfl, rfl, rfl, ?ya10x51⟩ ?_
      case ya10x51 => intro w0 hS; go_simp; (first | done | (with_reducible rfl) | (rw [if_neg (by omega)]; done) | skip)
      simp only [Act.put, List.setIfInBounds_toArray, List.set_cons_zero, List.set_cons_succ]
      refine takeA 11 (some 75) ?va11x51 ⟨_, rfl, rfl, rfl, ?ya11x51⟩ ?_
      case ya11x51 => intro w0 hS; go_simp; (first | done | (with_reducible rfl) | (rw [if_neg (by omega)]; done) | skip)
      simp only [Act.put, List.setIfInBounds_toArray, List.set_cons_zero, List.set_cons_succ]
      refine wpAnyH_ready (rs := [13]) (by kernel_rfl) (by simp) ?_
      refine AllReadyH.cons rfl (fun K0 hK0 => ?_) AllReadyH.nil
      go_simp
      refine (unhide TD _ _ (unhide EN45a)).mono ?_
      rintro e u52a ⟨⟨v, rfl, T, rfl, hT, hTl, hTb⟩, j52a⟩
      obtain ⟨az, cz, kidz, rfl⟩ := num_form hT hTb
      have HT := hide hT
      clear hT hTl hTb
      dsimp only [VT.val]
      go_wp2_with fail
      refine hK0.out _ _ ?hS52a (fun hE1 => ?_)
      case hS52a => exact unhide SK _ (keep_call hE j52a)
      clear hK0 K0
      have o52ba := o45ba.below j52a
      have EN52a := hide ((unhide EN45a).below j52a)
      have CA52a := hide ((unhide CA45a).below j52a)
      have CB52a := hide ((unhide CB45a).below j52a)
      clear j52a
      clear hE o45ba EN45a CA45a CB45a
      have hE := hE1
      clear hE1
      try simp only [Act.put, List.setIfInBounds_toArray, List.set_cons_zero, List.set_cons_succ]
      refine takeA 14 (some 63) ?va14x52 ⟨_, rfl, rfl, rfl, ?ya14x52⟩ ?_
      case ya14x52 => intro w0 hS; go_simp; try (with_reducible rfl)
      simp only [Act.put, List.setIfInBounds_toArray, List.set_cons_zero, List.set_cons_succ]
      refine takeA 15 (some 78) ?va15x52 ⟨_, rfl, rfl, rfl, ?ya15x52⟩ ?_
      case ya15x52 => intro w0 hS; go_simp; try (with_reducible rfl)
      simp only [Act.put, List.setIfInBounds_toArray, List.set_cons_zero, List.set_cons_succ]
      refine takeA 16 (some 79) ?va16x52 ⟨_, rfl, rfl, rfl, ?ya16x52⟩ ?_
      case ya16x52 => intro w0 hS; go_simp; try (with_reducible rfl)
      simp only [Act.put, List.setIfInBounds_toArray, List.set_cons_zero, List.set_cons_succ]
      refine wpAnyH_ready (rs := [18]) (by kernel_rfl) (by simp) ?_
      refine AllReadyH.cons rfl (fun K0 hK0 => ?_) AllReadyH.nil
      obtain ⟨⟨-, e0, e1, e2, e3, e4, e5⟩, f0, f1, f2, f3, f4, f5⟩ := id o52ba
      simp only [Nat.zero_add] at e0 e1 e2 e3 e4 e5
      go_simp
      clear e0 e1 e2 e3 e4 e5 f0 f1 f2 f3 f4 f5
      refine hK0.out _ _ ?hS53a (fun hE1 => ?_)
      case hS53a => exact unhide SK _ (set6 hE.1 (by omega) _ _ _ _ _ _)
      clear hK0 K0
      have s53ba := Own.put o52ba 2 false R 0 ⟨#[]⟩ az 0 cz
      generalize ((((((u52a.setCell ⟨g45a, 0, none⟩ (.int .i64 2)).setCell ⟨g45a, 1, none⟩ (.bool false)).setCell ⟨g45a, 2, none⟩ (.int .i64 R)).setCell ⟨g45a, 3, none⟩ (.int .i64 0)).setCell ⟨g45a, 4, none⟩ (.string ⟨#[]⟩)).setCell ⟨g45a, 5, none⟩ (.slice az 0 cz)) = u53a at *
      clear hE o52ba EN52a CA52a CB52a
      have hE := hE1
      clear hE1
      try simp only [Act.put, List.setIfInBounds_toArray, List.set_cons_zero, List.set_cons_succ]
      refine takeA 19 (some 13) ?va19x53 ⟨_, rfl, rfl, rfl, ?ya19x53⟩ ?_
      case ya19x53 => intro w0 hS; go_simp; try (with_reducible rfl)
      simp only [Act.put, List.setIfInBounds_toArray, List.set_cons_zero, List.set_cons_succ]
      refine wpAnyH_done (by kernel_rfl) ?_ _
      refine NoPanic.normal ?_
      obtain ⟨y0, y1, y2, y3, y4, y5, y6⟩ := s53ba
      simp only [Nat.zero_add] at y1 y2 y3 y4 y5 y6
      have BZ := hE.1
      clear hE
      go_wp2_with fail
      go_meet
      exact ⟨_, _, _, _, rfl, rfl, ⟨y1, y2, y3, y4, y5, y6⟩, hide (in_leaf2 (unhide HT)), BZ⟩
   ·skip
    go_simp
    refine hK0.out _ _ ?hS54a (fun hE1 => ?_)
    case hS54a => exact unhide SK _ (keep_alloc hE _)
    clear hK0 K0
    have j54a := below1 u1a (Obj.cells #[.int .i64 0, .bool false, .int .i64 0, .int .i64 0, .string ⟨#[]⟩, .slice none 0 0] 32)
    have z54a : V.heap.size ≤ u1a.heap.size := hE.1.size
    have EN54a := hide ((unhide EN1a).below j54a)
    have CA54a := hide ((unhide CA1a).below j54a)
    have o54ba := Own.new u1a 32
    generalize u1a.alloc (Obj.cells #[.int .i64 0, .bool false, .int .i64 0, .int .i64 0, .string ⟨#[]⟩, .slice none 0 0] 32) = u54a at *
    generalize u1a.heap.size = g54a at *
    clear j54a
    clear hE EN1a CA1a
    have hE := hE1
    clear hE1
    try simp only [Act.put, List.setIfInBounds_toArray, List.set_cons_zero, List.set_cons_succ]
    refine wpAnyH_ready (rs := [3, 6]) (by kernel_rfl) (by simp) ?_
    refine AllReadyH.cons rfl (fun K0 hK0 => ?_) (AllReadyH.cons rfl (fun K0 hK0 => ?_) AllReadyH.nil)
    ·skip
     have hcl := (unhide CA54a : _ = _)
     go_simp
     clear hcl
     refine hK0.out _ _ ?hS55a (fun hE1 => ?_)
     case hS55a => exact hE
     clear hK0 K0 hE
     have hE := hE1
     clear hE1
     try simp only [Act.put, List.setIfInBounds_toArray, List.set_cons_zero, List.set_cons_succ]
     refine takeA 4 (some 68) ?va4x55 ⟨_, rfl, rfl, rfl, ?ya4x55⟩ ?_
     case ya4x55 => intro w0 hS; go_simp; (first | done | (with_reducible rfl) | (rw [if_neg (by omega)]; done) | skip)
     simp only [Act.put, List.setIfInBounds_toArray, List.set_cons_zero, List.set_cons_succ]
     refine takeA 5 (some 69) ?va5x55 ⟨_, rfl, rfl, rfl, ?ya5x55⟩ ?_
     case ya5x55 => intro w0 hS; go_simp; (first | done | (with_reducible rfl) | (rw [if_neg (by omega)]; done) | skip)
     simp only [Act.put, List.setIfInBounds_toArray, List.set_cons_zero, List.set_cons_succ]
     refine wpAnyH_ready (rs := [6]) (by kernel_rfl) (by simp) ?_
     refine AllReadyH.cons rfl (fun K0 hK0 => ?_) AllReadyH.nil
     go_simp
     refine hK0.out _ _ ?hS56a (fun hE1 => ?_)
     case hS56a => exact unhide SK _ (keep_alloc hE _)
     clear hK0 K0
     have j56a := below1 u54a (Obj.cells #[.string ⟨#[43]⟩, .string ⟨#[45]⟩, .string ⟨#[42]⟩] 9)
     have z56a : V.heap.size ≤ u54a.heap.size := hE.1.size
     have o56ba := o54ba.below j56a
     have EN56a := hide ((unhide EN54a).below j56a)
     have CA56a := hide ((unhide CA54a).below j56a)
     have CB56a := hide (cellIs_mk (w := u54a.alloc (Obj.cells #[.string ⟨#[43]⟩, .string ⟨#[45]⟩, .string ⟨#[42]⟩] 9)) (g := u54a.heap.size) (o := q) (v := .string ⟨Q.toArray⟩) (unhide HCQ u54a))
     have ne56ba : g54a ≠ u54a.heap.size := Nat.ne_of_lt o54ba.1.1
     generalize u54a.alloc (Obj.cells #[.string ⟨#[43]⟩, .string ⟨#[45]⟩, .string ⟨#[42]⟩] 9) = u56a at *
     generalize u54a.heap.size = g56a at *
     clear j56a
     clear hE o54ba EN54a CA54a
     have hE := hE1
     clear hE1
     try simp only [Act.put, List.setIfInBounds_toArray, List.set_cons_zero, List.set_cons_succ]
     refine takeA 8 (some 72) ?va8x56 ⟨_, rfl, rfl, rfl, ?ya8x56⟩ ?_
     case ya8x56 => intro w0 hS; go_simp; try (with_reducible rfl)
     simp only [Act.put, List.setIfInBounds_toArray, List.set_cons_zero, List.set_cons_succ]
     refine wpAnyH_ready (rs := [9]) (by kernel_rfl) (by simp) ?_
     refine AllReadyH.cons rfl (fun K0 hK0 => ?_) AllReadyH.nil
     have hcl := (unhide CB56a : _ = _)
     go_simp
     clear hcl
     refine hK0.out _ _ ?hS57a (fun hE1 => ?_)
     case hS57a => exact hE
     clear hK0 K0 hE
     have hE := hE1
     clear hE1
     try simp only [Act.put, List.setIfInBounds_toArray, List.set_cons_zero, List.set_cons_succ]
     refine takeA 10 (some 74) ?va10x57 ⟨_, rfl, rfl, rfl, ?ya10x57⟩ ?_
     case ya10x57 => intro w0 hS; go_simp; (first | done | (with_reducible rfl) | (rw [if_neg (by omega)]; done) | skip)
     simp only [Act.put, List.setIfInBounds_toArray, List.set_cons_zero, List.set_cons_succ]
     refine takeA 11 (some 75) ?va11x57 ⟨_, rfl, rfl, rfl, ?ya11x57⟩ ?_
     case ya11x57 => intro w0 hS; go_simp; (first | done | (with_reducible rfl) | (rw [if_neg (by omega)]; done) | skip)
     simp only [Act.put, List.setIfInBounds_toArray, List.set_cons_zero, List.set_cons_succ]
     refine wpAnyH_ready (rs := [13]) (by kernel_rfl) (by simp) ?_
     refine AllReadyH.cons rfl (fun K0 hK0 => ?_) AllReadyH.nil
     go_simp
     refine (unhide TD _ _ (unhide EN56a)).mono ?_
     rintro e u58a ⟨⟨v, rfl, T, rfl, hT, hTl, hTb⟩, j58a⟩
     obtain ⟨az, cz, kidz, rfl⟩ := num_form hT hTb
     have HT := hide hT
     clear hT hTl hTb
     dsimp only [VT.val]
     go_wp2_with fail
     refine hK0.out _ _ ?hS58a (fun hE1 => ?_)
     case hS58a => exact unhide SK _ (keep_call hE j58a)
     clear hK0 K0
     have o58ba := o56ba.below j58a
     have EN58a := hide ((unhide EN56a).below j58a)
     have CA58a := hide ((unhide CA56a).below j58a)
     have CB58a := hide ((unhide CB56a).below j58a)
     clear j58a
     clear hE o56ba EN56a CA56a CB56a
     have hE := hE1
     clear hE1
     try simp only [Act.put, List.setIfInBounds_toArray, List.set_cons_zero, List.set_cons_succ]
     refine takeA 14 (some 63) ?va14x58 ⟨_, rfl, rfl, rfl, ?ya14x58⟩ ?_
     case ya14x58 => intro w0 hS; go_simp; try (with_reducible rfl)
     simp only [Act.put, List.setIfInBounds_toArray, List.set_cons_zero, List.set_cons_succ]
     refine takeA 15 (some 78) ?va15x58 ⟨_, rfl, rfl, rfl, ?ya15x58⟩ ?_
     case ya15x58 => intro w0 hS; go_simp; try (with_reducible rfl)
     simp only [Act.put, List.setIfInBounds_toArray, List.set_cons_zero, List.set_cons_succ]
     refine takeA 16 (some 79) ?va16x58 ⟨_, rfl, rfl, rfl, ?ya16x58⟩ ?_
     case ya16x58 => intro w0 hS; go_simp; try (with_reducible rfl)
     simp only [Act.put, List.setIfInBounds_toArray, List.set_cons_zero, List.set_cons_succ]
     refine wpAnyH_ready (rs := [18]) (by kernel_rfl) (by simp) ?_
     refine AllReadyH.cons rfl (fun K0 hK0 => ?_) AllReadyH.nil
     obtain ⟨⟨-, e0, e1, e2, e3, e4, e5⟩, f0, f1, f2, f3, f4, f5⟩ := id o58ba
     simp only [Nat.zero_add] at e0 e1 e2 e3 e4 e5
     go_simp
     clear e0 e1 e2 e3 e4 e5 f0 f1 f2 f3 f4 f5
     refine hK0.out _ _ ?hS59a (fun hE1 => ?_)
     case hS59a => exact unhide SK _ (set6 hE.1 (by omega) _ _ _ _ _ _)
     clear hK0 K0
     have s59ba := Own.put o58ba 2 false R 0 ⟨#[]⟩ az 0 cz
     generalize ((((((u58a.setCell ⟨g54a, 0, none⟩ (.int .i64 2)).setCell ⟨g54a, 1, none⟩ (.bool false)).setCell ⟨g54a, 2, none⟩ (.int .i64 R)).setCell ⟨g54a, 3, none⟩ (.int .i64 0)).setCell ⟨g54a, 4, none⟩ (.string ⟨#[]⟩)).setCell ⟨g54a, 5, none⟩ (.slice az 0 cz)) = u59a at *
     clear hE o58ba EN58a CA58a CB58a
     have hE := hE1
     clear hE1
     try simp only [Act.put, List.setIfInBounds_toArray, List.set_cons_zero, List.set_cons_succ]
     refine takeA 19 (some 13) ?va19x59 ⟨_, rfl, rfl, rfl, ?ya19x59⟩ ?_
     case ya19x59 => intro w0 hS; go_simp; try (with_reducible rfl)
     simp only [Act.put, List.setIfInBounds_toArray, List.set_cons_zero, List.set_cons_succ]
     refine wpAnyH_done (by kernel_rfl) ?_ _
     refine NoPanic.normal ?_
     obtain ⟨y0, y1, y2, y3, y4, y5, y6⟩ := s59ba
     simp only [Nat.zero_add] at y1 y2 y3 y4 y5 y6
     have BZ := hE.1
     clear hE
     go_wp2_with fail
     go_meet
     exact ⟨_, _, _, _, rfl, rfl, ⟨y1, y2, y3, y4, y5, y6⟩, hide (in_leaf2 (unhide HT)), BZ⟩
    ·skip
     go_simp
     refine hK0.out _ _ ?hS60a (fun hE1 => ?_)
     case hS60a => exact unhide SK _ (keep_alloc hE _)
     clear hK0 K0
     have j60a := below1 u54a (Obj.cells #[.string ⟨#[43]⟩, .string ⟨#[45]⟩, .string ⟨#[42]⟩] 9)
     have z60a : V.heap.size ≤ u54a.heap.size := hE.1.size
     have o60ba := o54ba.below j60a
     have EN60a := hide ((unhide EN54a).below j60a)
     have CA60a := hide ((unhide CA54a).below j60a)
     have CB60a := hide (cellIs_mk (w := u54a.alloc (Obj.cells #[.string ⟨#[43]⟩, .string ⟨#[45]⟩, .string ⟨#[42]⟩] 9)) (g := u54a.heap.size) (o := q) (v := .string ⟨Q.toArray⟩) (unhide HCQ u54a))
     have ne60ba : g54a ≠ u54a.heap.size := Nat.ne_of_lt o54ba.1.1
     generalize u54a.alloc (Obj.cells #[.string ⟨#[43]⟩, .string ⟨#[45]⟩, .string ⟨#[42]⟩] 9) = u60a at *
     generalize u54a.heap.size = g60a at *
     clear j60a
     clear hE o54ba EN54a CA54a
     have hE := hE1
     clear hE1
     try simp only [Act.put, List.setIfInBounds_toArray, List.set_cons_zero, List.set_cons_succ]
     refine takeA 8 (some 72) ?va8x60 ⟨_, rfl, rfl, rfl, ?ya8x60⟩ ?_
     case ya8x60 => intro w0 hS; go_simp; try (with_reducible rfl)
     simp only [Act.put, List.setIfInBounds_toArray, List.set_cons_zero, List.set_cons_succ]
     refine wpAnyH_ready (rs := [3, 9]) (by kernel_rfl) (by simp) ?_
     refine AllReadyH.cons rfl (fun K0 hK0 => ?_) (AllReadyH.cons rfl (fun K0 hK0 => ?_) AllReadyH.nil)
     ·skip
      have hcl := (unhide CA60a : _ = _)
      go_simp
      clear hcl
      refine hK0.out _ _ ?hS61a (fun hE1 => ?_)
      case hS61a => exact hE
      clear hK0 K0 hE
      have hE := hE1
      clear hE1
      try simp only [Act.put, List.setIfInBounds_toArray, List.set_cons_zero, List.set_cons_succ]
      refine takeA 4 (some 68) ?va4x61 ⟨_, rfl, rfl, rfl, ?ya4x61⟩ ?_
      case ya4x61 => intro w0 hS; go_simp; (first | done | (with_reducible rfl) | (rw [if_neg (by omega)]; done) | skip)
      simp only [Act.put, List.setIfInBounds_toArray, List.set_cons_zero, List.set_cons_succ]
      refine takeA 5 (some 69) ?va5x61 ⟨_, rfl, rfl, rfl, ?ya5x61⟩ ?_
      case ya5x61 => intro w0 hS; go_simp; (first | done | (with_reducible rfl) | (rw [if_neg (by omega)]; done) | skip)
      simp only [Act.put, List.setIfInBounds_toArray, List.set_cons_zero, List.set_cons_succ]
      refine wpAnyH_ready (rs := [9]) (by kernel_rfl) (by simp) ?_
      refine AllReadyH.cons rfl (fun K0 hK0 => ?_) AllReadyH.nil
      have hcl := (unhide CB60a : _ = _)
      go_simp
      clear hcl
      refine hK0.out _ _ ?hS62a (fun hE1 => ?_)
      case hS62a => exact hE
      clear hK0 K0 hE
      have hE := hE1
      clear hE1
      try simp only [Act.put, List.setIfInBounds_toArray, List.set_cons_zero, List.set_cons_succ]
      refine takeA 10 (some 74) ?va10x62 ⟨_, rfl, rfl, rfl, ?ya10x62⟩ ?_
      case ya10x62 => intro w0 hS; go_simp; (first | done | (with_reducible rfl) | (rw [if_neg (by omega)]; done) | skip)
      simp only [Act.put, List.setIfInBounds_toArray, List.set_cons_zero, List.set_cons_succ]
      refine takeA 11 (some 75) ?va11x62 ⟨_, rfl, rfl, rfl, ?ya11x62⟩ ?_
      case ya11x62 => intro w0 hS; go_simp; (first | done | (with_reducible rfl) | (rw [if_neg (by omega)]; done) | skip)
      simp only [Act.put, List.setIfInBounds_toArray, List.set_cons_zero, List.set_cons_succ]
      refine wpAnyH_ready (rs := [13]) (by kernel_rfl) (by simp) ?_
      refine AllReadyH.cons rfl (fun K0 hK0 => ?_) AllReadyH.nil
      go_simp
      refine (unhide TD _ _ (unhide EN60a)).mono ?_
      rintro e u63a ⟨⟨v, rfl, T, rfl, hT, hTl, hTb⟩, j63a⟩
      obtain ⟨az, cz, kidz, rfl⟩ := num_form hT hTb
      have HT := hide hT
      clear hT hTl hTb
      dsimp only [VT.val]
      go_wp2_with fail
      refine hK0.out _ _ ?hS63a (fun hE1 => ?_)
      case hS63a => exact unhide SK _ (keep_call hE j63a)
      clear hK0 K0
      have o63ba := o60ba.below j63a
      have EN63a := hide ((unhide EN60a).below j63a)
      have CA63a := hide ((unhide CA60a).below j63a)
      have CB63a := hide ((unhide CB60a).below j63a)
      clear j63a
      clear hE o60ba EN60a CA60a CB60a
      have hE := hE1
      clear hE1
      try simp only [Act.put, List.setIfInBounds_toArray, List.set_cons_zero, List.set_cons_succ]
      refine takeA 14 (some 63) ?va14x63 ⟨_, rfl, rfl, rfl, ?ya14x63⟩ ?_
      case ya14x63 => intro w0 hS; go_simp; try (with_reducible rfl)
      simp only [Act.put, List.setIfInBounds_toArray, List.set_cons_zero, List.set_cons_succ]
      refine takeA 15 (some 78) ?va15x63 ⟨_, rfl, rfl, rfl, ?ya15x63⟩ ?_
      case ya15x63 => intro w0 hS; go_simp; try (with_reducible rfl)
      simp only [Act.put, List.setIfInBounds_toArray, List.set_cons_zero, List.set_cons_succ]
      refine takeA 16 (some 79) ?va16x63 ⟨_, rfl, rfl, rfl, ?ya16x63⟩ ?_
      case ya16x63 => intro w0 hS; go_simp; try (with_reducible rfl)
      simp only [Act.put, List.setIfInBounds_toArray, List.set_cons_zero, List.set_cons_succ]
      refine wpAnyH_ready (rs := [18]) (by kernel_rfl) (by simp) ?_
      refine AllReadyH.cons rfl (fun K0 hK0 => ?_) AllReadyH.nil
      obtain ⟨⟨-, e0, e1, e2, e3, e4, e5⟩, f0, f1, f2, f3, f4, f5⟩ := id o63ba
      simp only [Nat.zero_add] at e0 e1 e2 e3 e4 e5
      go_simp
      clear e0 e1 e2 e3 e4 e5 f0 f1 f2 f3 f4 f5
      refine hK0.out _ _ ?hS64a (fun hE1 => ?_)
      case hS64a => exact unhide SK _ (set6 hE.1 (by omega) _ _ _ _ _ _)
      clear hK0 K0
      have s64ba := Own.put o63ba 2 false R 0 ⟨#[]⟩ az 0 cz
      generalize ((((((u63a.setCell ⟨g54a, 0, none⟩ (.int .i64 2)).setCell ⟨g54a, 1, none⟩ (.bool false)).setCell ⟨g54a, 2, none⟩ (.int .i64 R)).setCell ⟨g54a, 3, none⟩ (.int .i64 0)).setCell ⟨g54a, 4, none⟩ (.string ⟨#[]⟩)).setCell ⟨g54a, 5, none⟩ (.slice az 0 cz)) = u64a at *
      clear hE o63ba EN63a CA63a CB63a
      have hE := hE1
      clear hE1
      try simp only [Act.put, List.setIfInBounds_toArray, List.set_cons_zero, List.set_cons_succ]
      refine takeA 19 (some 13) ?va19x64 ⟨_, rfl, rfl, rfl, ?ya19x64⟩ ?_
      case ya19x64 => intro w0 hS; go_simp; try (with_reducible rfl)
      simp only [Act.put, List.setIfInBounds_toArray, List.set_cons_zero, List.set_cons_succ]
      refine wpAnyH_done (by kernel_rfl) ?_ _
      refine NoPanic.normal ?_
      obtain ⟨y0, y1, y2, y3, y4, y5, y6⟩ := s64ba
      simp only [Nat.zero_add] at y1 y2 y3 y4 y5 y6
      have BZ := hE.1
      clear hE
      go_wp2_with fail
      go_meet
      exact ⟨_, _, _, _, rfl, rfl, ⟨y1, y2, y3, y4, y5, y6⟩, hide (in_leaf2 (unhide HT)), BZ⟩
     ·skip
      have hcl := (unhide CB60a : _ = _)
      go_simp
      clear hcl
      refine hK0.out _ _ ?hS65a (fun hE1 => ?_)
      case hS65a => exact hE
      clear hK0 K0 hE
      have hE := hE1
      clear hE1
      try simp only [Act.put, List.setIfInBounds_toArray, List.set_cons_zero, List.set_cons_succ]
      refine wpAnyH_ready (rs := [3]) (by kernel_rfl) (by simp) ?_
      refine AllReadyH.cons rfl (fun K0 hK0 => ?_) AllReadyH.nil
      have hcl := (unhide CA60a : _ = _)
      go_simp
      clear hcl
      refine hK0.out _ _ ?hS66a (fun hE1 => ?_)
      case hS66a => exact hE
      clear hK0 K0 hE
      have hE := hE1
      clear hE1
      try simp only [Act.put, List.setIfInBounds_toArray, List.set_cons_zero, List.set_cons_succ]
      refine takeA 4 (some 68) ?va4x66 ⟨_, rfl, rfl, rfl, ?ya4x66⟩ ?_
      case ya4x66 => intro w0 hS; go_simp; (first | done | (with_reducible rfl) | (rw [if_neg (by omega)]; done) | skip)
      simp only [Act.put, List.setIfInBounds_toArray, List.set_cons_zero, List.set_cons_succ]
      refine takeA 5 (some 69) ?va5x66 ⟨_, rfl, rfl, rfl, ?ya5x66⟩ ?_
      case ya5x66 => intro w0 hS; go_simp; (first | done | (with_reducible rfl) | (rw [if_neg (by omega)]; done) | skip)
      simp only [Act.put, List.setIfInBounds_toArray, List.set_cons_zero, List.set_cons_succ]
      refine takeA 10 (some 74) ?va10x66 ⟨_, rfl, rfl, rfl, ?ya10x66⟩ ?_
      case ya10x66 => intro w0 hS; go_simp; (first | done | (with_reducible rfl) | (rw [if_neg (by omega)]; done) | skip)
      simp only [Act.put, List.setIfInBounds_toArray, List.set_cons_zero, List.set_cons_succ]
      refine takeA 11 (some 75) ?va11x66 ⟨_, rfl, rfl, rfl, ?ya11x66⟩ ?_
      case ya11x66 => intro w0 hS; go_simp; (first | done | (with_reducible rfl) | (rw [if_neg (by omega)]; done) | skip)
      simp only [Act.put, List.setIfInBounds_toArray, List.set_cons_zero, List.set_cons_succ]
      refine wpAnyH_ready (rs := [13]) (by kernel_rfl) (by simp) ?_
      refine AllReadyH.cons rfl (fun K0 hK0 => ?_) AllReadyH.nil
      go_simp
      refine (unhide TD _ _ (unhide EN60a)).mono ?_
      rintro e u67a ⟨⟨v, rfl, T, rfl, hT, hTl, hTb⟩, j67a⟩
      obtain ⟨az, cz, kidz, rfl⟩ := num_form hT hTb
      have HT := hide hT
      clear hT hTl hTb
      dsimp only [VT.val]
      go_wp2_with fail
      refine hK0.out _ _ ?hS67a (fun hE1 => ?_)
      case hS67a => exact unhide SK _ (keep_call hE j67a)
      clear hK0 K0
      have o67ba := o60ba.below j67a
      have EN67a := hide ((unhide EN60a).below j67a)
      have CA67a := hide ((unhide CA60a).below j67a)
      have CB67a := hide ((unhide CB60a).below j67a)
      clear j67a
      clear hE o60ba EN60a CA60a CB60a
      have hE := hE1
      clear hE1
      try simp only [Act.put, List.setIfInBounds_toArray, List.set_cons_zero, List.set_cons_succ]
      refine takeA 14 (some 63) ?va14x67 ⟨_, rfl, rfl, rfl, ?ya14x67⟩ ?_
      case ya14x67 => intro w0 hS; go_simp; try (with_reducible rfl)
      simp only [Act.put, List.setIfInBounds_toArray, List.set_cons_zero, List.set_cons_succ]
      refine takeA 15 (some 78) ?va15x67 ⟨_, rfl, rfl, rfl, ?ya15x67⟩ ?_
      case ya15x67 => intro w0 hS; go_simp; try (with_reducible rfl)
      simp only [Act.put, List.setIfInBounds_toArray, List.set_cons_zero, List.set_cons_succ]
      refine takeA 16 (some 79) ?va16x67 ⟨_, rfl, rfl, rfl, ?ya16x67⟩ ?_
      case ya16x67 => intro w0 hS; go_simp; try (with_reducible rfl)
      simp only [Act.put, List.setIfInBounds_toArray, List.set_cons_zero, List.set_cons_succ]
      refine wpAnyH_ready (rs := [18]) (by kernel_rfl) (by simp) ?_
      refine AllReadyH.cons rfl (fun K0 hK0 => ?_) AllReadyH.nil
      obtain ⟨⟨-, e0, e1, e2, e3, e4, e5⟩, f0, f1, f2, f3, f4, f5⟩ := id o67ba
      simp only [Nat.zero_add] at e0 e1 e2 e3 e4 e5
      go_simp
      clear e0 e1 e2 e3 e4 e5 f0 f1 f2 f3 f4 f5
      refine hK0.out _ _ ?hS68a (fun hE1 => ?_)
      case hS68a => exact unhide SK _ (set6 hE.1 (by omega) _ _ _ _ _ _)
      clear hK0 K0
      have s68ba := Own.put o67ba 2 false R 0 ⟨#[]⟩ az 0 cz
      generalize ((((((u67a.setCell ⟨g54a, 0, none⟩ (.int .i64 2)).setCell ⟨g54a, 1, none⟩ (.bool false)).setCell ⟨g54a, 2, none⟩ (.int .i64 R)).setCell ⟨g54a, 3, none⟩ (.int .i64 0)).setCell ⟨g54a, 4, none⟩ (.string ⟨#[]⟩)).setCell ⟨g54a, 5, none⟩ (.slice az 0 cz)) = u68a at *
      clear hE o67ba EN67a CA67a CB67a
      have hE := hE1
      clear hE1
      try simp only [Act.put, List.setIfInBounds_toArray, List.set_cons_zero, List.set_cons_succ]
      refine takeA 19 (some 13) ?va19x68 ⟨_, rfl, rfl, rfl, ?ya19x68⟩ ?_
      case ya19x68 => intro w0 hS; go_simp; try (with_reducible rfl)
      simp only [Act.put, List.setIfInBounds_toArray, List.set_cons_zero, List.set_cons_succ]
      refine wpAnyH_done (by kernel_rfl) ?_ _
      refine NoPanic.normal ?_
      obtain ⟨y0, y1, y2, y3, y4, y5, y6⟩ := s68ba
      simp only [Nat.zero_add] at y1 y2 y3 y4 y5 y6
      have BZ := hE.1
      clear hE
      go_wp2_with fail
      go_meet
      exact ⟨_, _, _, _, rfl, rfl, ⟨y1, y2, y3, y4, y5, y6⟩, hide (in_leaf2 (unhide HT)), BZ⟩
  ·skip
   go_simp
   refine hK0.out _ _ ?hS69a (fun hE1 => ?_)
   case hS69a => exact unhide SK _ (keep_alloc hE _)
   clear hK0 K0
   have j69a := below1 u0a (Obj.cells #[.string ⟨#[43]⟩, .string ⟨#[45]⟩, .string ⟨#[42]⟩] 9)
   have z69a : V.heap.size ≤ u0a.heap.size := hE.1.size
   have EN69a := hide ((unhide EN0a).below j69a)
   have CB69a := hide (cellIs_mk (w := u0a.alloc (Obj.cells #[.string ⟨#[43]⟩, .string ⟨#[45]⟩, .string ⟨#[42]⟩] 9)) (g := u0a.heap.size) (o := q) (v := .string ⟨Q.toArray⟩) (unhide HCQ u0a))
   generalize u0a.alloc (Obj.cells #[.string ⟨#[43]⟩, .string ⟨#[45]⟩, .string ⟨#[42]⟩] 9) = u69a at *
   generalize u0a.heap.size = g69a at *
   clear j69a
   clear hE EN0a
   have hE := hE1
   clear hE1
   try simp only [Act.put, List.setIfInBounds_toArray, List.set_cons_zero, List.set_cons_succ]
   refine takeA 8 (some 72) ?va8x69 ⟨_, rfl, rfl, rfl, ?ya8x69⟩ ?_
   case ya8x69 => intro w0 hS; go_simp; try (with_reducible rfl)
   simp only [Act.put, List.setIfInBounds_toArray, List.set_cons_zero, List.set_cons_succ]
   refine wpAnyH_ready (rs := [0, 9, 17]) (by kernel_rfl) (by simp) ?_
   refine AllReadyH.cons rfl (fun K0 hK0 => ?_) (AllReadyH.cons rfl (fun K0 hK0 => ?_) (AllReadyH.cons rfl (fun K0 hK0 => ?_) AllReadyH.nil))
   ·skip
    go_simp
    refine hK0.out _ _ ?hS70a (fun hE1 => ?_)
    case hS70a => exact unhide SK _ (keep_alloc hE _)
    clear hK0 K0
    have j70a := below1 u69a (Obj.cells #[.string ⟨#[43]⟩, .string ⟨#[45]⟩, .string ⟨#[42]⟩] 9)
    have z70a : V.heap.size ≤ u69a.heap.size := hE.1.size
    have EN70a := hide ((unhide EN69a).below j70a)
    have CB70a := hide ((unhide CB69a).below j70a)
    have CA70a := hide (cellIs_mk (w := u69a.alloc (Obj.cells #[.string ⟨#[43]⟩, .string ⟨#[45]⟩, .string ⟨#[42]⟩] 9)) (g := u69a.heap.size) (o := p) (v := .string ⟨P.toArray⟩) (unhide HCP u69a))
    generalize u69a.alloc (Obj.cells #[.string ⟨#[43]⟩, .string ⟨#[45]⟩, .string ⟨#[42]⟩] 9) = u70a at *
    generalize u69a.heap.size = g70a at *
    clear j70a
    clear hE EN69a CB69a
    have hE := hE1
    clear hE1
    try simp only [Act.put, List.setIfInBounds_toArray, List.set_cons_zero, List.set_cons_succ]
    refine takeA 2 (some 66) ?va2x70 ⟨_, rfl, rfl, rfl, ?ya2x70⟩ ?_
    case ya2x70 => intro w0 hS; go_simp; try (with_reducible rfl)
    simp only [Act.put, List.setIfInBounds_toArray, List.set_cons_zero, List.set_cons_succ]
    refine wpAnyH_ready (rs := [3, 9, 17]) (by kernel_rfl) (by simp) ?_
    refine AllReadyH.cons rfl (fun K0 hK0 => ?_) (AllReadyH.cons rfl (fun K0 hK0 => ?_) (AllReadyH.cons rfl (fun K0 hK0 => ?_) AllReadyH.nil))
    ·skip
     have hcl := (unhide CA70a : _ = _)
     go_simp
     clear hcl
     refine hK0.out _ _ ?hS71a (fun hE1 => ?_)
     case hS71a => exact hE
     clear hK0 K0 hE
     have hE := hE1
     clear hE1
     try simp only [Act.put, List.setIfInBounds_toArray, List.set_cons_zero, List.set_cons_succ]
     refine takeA 4 (some 68) ?va4x71 ⟨_, rfl, rfl, rfl, ?ya4x71⟩ ?_
     case ya4x71 => intro w0 hS; go_simp; (first | done | (with_reducible rfl) | (rw [if_neg (by omega)]; done) | skip)
     simp only [Act.put, List.setIfInBounds_toArray, List.set_cons_zero, List.set_cons_succ]
     refine takeA 5 (some 69) ?va5x71 ⟨_, rfl, rfl, rfl, ?ya5x71⟩ ?_
     case ya5x71 => intro w0 hS; go_simp; (first | done | (with_reducible rfl) | (rw [if_neg (by omega)]; done) | skip)
     simp only [Act.put, List.setIfInBounds_toArray, List.set_cons_zero, List.set_cons_succ]
     refine wpAnyH_ready (rs := [9, 17]) (by kernel_rfl) (by simp) ?_
     refine AllReadyH.cons rfl (fun K0 hK0 => ?_) (AllReadyH.cons rfl (fun K0 hK0 => ?_) AllReadyH.nil)
     ·skip
      have hcl := (unhide CB70a : _ = _)
      go_simp
      clear hcl
      refine hK0.out _ _ ?hS72a (fun hE1 => ?_)
      case hS72a => exact hE
      clear hK0 K0 hE
      have hE := hE1
      clear hE1
      try simp only [Act.put, List.setIfInBounds_toArray, List.set_cons_zero, List.set_cons_succ]
      refine takeA 10 (some 74) ?va10x72 ⟨_, rfl, rfl, rfl, ?ya10x72⟩ ?_
      case ya10x72 => intro w0 hS; go_simp; (first | done | (with_reducible rfl) | (rw [if_neg (by omega)]; done) | skip)
      simp only [Act.put, List.setIfInBounds_toArray, List.set_cons_zero, List.set_cons_succ]
      refine takeA 11 (some 75) ?va11x72 ⟨_, rfl, rfl, rfl, ?ya11x72⟩ ?_
      case ya11x72 => intro w0 hS; go_simp; (first | done | (with_reducible rfl) | (rw [if_neg (by omega)]; done) | skip)
      simp only [Act.put, List.setIfInBounds_toArray, List.set_cons_zero, List.set_cons_succ]
      refine wpAnyH_ready (rs := [13, 17]) (by kernel_rfl) (by simp) ?_
      refine AllReadyH.cons rfl (fun K0 hK0 => ?_) (AllReadyH.cons rfl (fun K0 hK0 => ?_) AllReadyH.nil)
      ·skip
       go_simp
       refine (unhide TD _ _ (unhide EN70a)).mono ?_
       rintro e u73a ⟨⟨v, rfl, T, rfl, hT, hTl, hTb⟩, j73a⟩
       obtain ⟨az, cz, kidz, rfl⟩ := num_form hT hTb
       have HT := hide hT
       clear hT hTl hTb
       dsimp only [VT.val]
       go_wp2_with fail
       refine hK0.out _ _ ?hS73a (fun hE1 => ?_)
       case hS73a => exact unhide SK _ (keep_call hE j73a)
       clear hK0 K0
       have EN73a := hide ((unhide EN70a).below j73a)
       have CB73a := hide ((unhide CB70a).below j73a)
       have CA73a := hide ((unhide CA70a).below j73a)
       clear j73a
       clear hE EN70a CB70a CA70a
       have hE := hE1
       clear hE1
       try simp only [Act.put, List.setIfInBounds_toArray, List.set_cons_zero, List.set_cons_succ]
       refine takeA 14 (some 63) ?va14x73 ⟨_, rfl, rfl, rfl, ?ya14x73⟩ ?_
       case ya14x73 => intro w0 hS; go_simp; try (with_reducible rfl)
       simp only [Act.put, List.setIfInBounds_toArray, List.set_cons_zero, List.set_cons_succ]
       refine takeA 15 (some 78) ?va15x73 ⟨_, rfl, rfl, rfl, ?ya15x73⟩ ?_
       case ya15x73 => intro w0 hS; go_simp; try (with_reducible rfl)
       simp only [Act.put, List.setIfInBounds_toArray, List.set_cons_zero, List.set_cons_succ]
       refine takeA 16 (some 79) ?va16x73 ⟨_, rfl, rfl, rfl, ?ya16x73⟩ ?_
       case ya16x73 => intro w0 hS; go_simp; try (with_reducible rfl)
       simp only [Act.put, List.setIfInBounds_toArray, List.set_cons_zero, List.set_cons_succ]
       refine wpAnyH_ready (rs := [17]) (by kernel_rfl) (by simp) ?_
       refine AllReadyH.cons rfl (fun K0 hK0 => ?_) AllReadyH.nil
       go_simp
       refine hK0.out _ _ ?hS74a (fun hE1 => ?_)
       case hS74a => exact unhide SK _ (keep_alloc hE _)
       clear hK0 K0
       have j74a := below1 u73a (Obj.cells #[.int .i64 0, .bool false, .int .i64 0, .int .i64 0, .string ⟨#[]⟩, .slice none 0 0] 32)
       have z74a : V.heap.size ≤ u73a.heap.size := hE.1.size
       have EN74a := hide ((unhide EN73a).below j74a)
       have CB74a := hide ((unhide CB73a).below j74a)
       have CA74a := hide ((unhide CA73a).below j74a)
       have o74ba := Own.new u73a 32
       generalize u73a.alloc (Obj.cells #[.int .i64 0, .bool false, .int .i64 0, .int .i64 0, .string ⟨#[]⟩, .slice none 0 0] 32) = u74a at *
       generalize u73a.heap.size = g74a at *
       clear j74a
       clear hE EN73a CB73a CA73a
       have hE := hE1
       clear hE1
       try simp only [Act.put, List.setIfInBounds_toArray, List.set_cons_zero, List.set_cons_succ]
       refine wpAnyH_ready (rs := [18]) (by kernel_rfl) (by simp) ?_
       refine AllReadyH.cons rfl (fun K0 hK0 => ?_) AllReadyH.nil
       obtain ⟨⟨-, e0, e1, e2, e3, e4, e5⟩, f0, f1, f2, f3, f4, f5⟩ := id o74ba
       simp only [Nat.zero_add] at e0 e1 e2 e3 e4 e5
       go_simp
       clear e0 e1 e2 e3 e4 e5 f0 f1 f2 f3 f4 f5
       refine hK0.out _ _ ?hS75a (fun hE1 => ?_)
       case hS75a => exact unhide SK _ (set6 hE.1 (by omega) _ _ _ _ _ _)
       clear hK0 K0
       have s75ba := Own.put o74ba 2 false R 0 ⟨#[]⟩ az 0 cz
       generalize ((((((u74a.setCell ⟨g74a, 0, none⟩ (.int .i64 2)).setCell ⟨g74a, 1, none⟩ (.bool false)).setCell ⟨g74a, 2, none⟩ (.int .i64 R)).setCell ⟨g74a, 3, none⟩ (.int .i64 0)).setCell ⟨g74a, 4, none⟩ (.string ⟨#[]⟩)).setCell ⟨g74a, 5, none⟩ (.slice az 0 cz)) = u75a at *
       clear hE o74ba EN74a CB74a CA74a
       have hE := hE1
       clear hE1
       try simp only [Act.put, List.setIfInBounds_toArray, List.set_cons_zero, List.set_cons_succ]
       refine takeA 19 (some 13) ?va19x75 ⟨_, rfl, rfl, rfl, ?ya19x75⟩ ?_
       case ya19x75 => intro w0 hS; go_simp; try (with_reducible rfl)
       simp only [Act.put, List.setIfInBounds_toArray, List.set_cons_zero, List.set_cons_succ]
       refine wpAnyH_done (by kernel_rfl) ?_ _
       refine NoPanic.normal ?_
       obtain ⟨y0, y1, y2, y3, y4, y5, y6⟩ := s75ba
       simp only [Nat.zero_add] at y1 y2 y3 y4 y5 y6
       have BZ := hE.1
       clear hE
       go_wp2_with fail
       go_meet
       exact ⟨_, _, _, _, rfl, rfl, ⟨y1, y2, y3, y4, y5, y6⟩, hide (in_leaf2 (unhide HT)), BZ⟩
      ·skip
       go_simp
       refine hK0.out _ _ ?hS76a (fun hE1 => ?_)
       case hS76a => exact unhide SK _ (keep_alloc hE _)
       clear hK0 K0
       have j76a := below1 u70a (Obj.cells #[.int .i64 0, .bool false, .int .i64 0, .int .i64 0, .string ⟨#[]⟩, .slice none 0 0] 32)
       have z76a : V.heap.size ≤ u70a.heap.size := hE.1.size
       have EN76a := hide ((unhide EN70a).below j76a)
       have CB76a := hide ((unhide CB70a).below j76a)
       have CA76a := hide ((unhide CA70a).below j76a)
       have o76ba := Own.new u70a 32
       generalize u70a.alloc (Obj.cells #[.int .i64 0, .bool false, .int .i64 0, .int .i64 0, .string ⟨#[]⟩, .slice none 0 0] 32) = u76a at *
       generalize u70a.heap.size = g76a at *
       clear j76a
       clear hE EN70a CB70a CA70a
       have hE := hE1
       clear hE1
       try simp only [Act.put, List.setIfInBounds_toArray, List.set_cons_zero, List.set_cons_succ]
       refine wpAnyH_ready (rs := [13]) (by kernel_rfl) (by simp) ?_
       refine AllReadyH.cons rfl (fun K0 hK0 => ?_) AllReadyH.nil
       go_simp
       refine (unhide TD _ _ (unhide EN76a)).mono ?_
       rintro e u77a ⟨⟨v, rfl, T, rfl, hT, hTl, hTb⟩, j77a⟩
       obtain ⟨az, cz, kidz, rfl⟩ := num_form hT hTb
       have HT := hide hT
       clear hT hTl hTb
       dsimp only [VT.val]
       go_wp2_with fail
       refine hK0.out _ _ ?hS77a (fun hE1 => ?_)
       case hS77a => exact unhide SK _ (keep_call hE j77a)
       clear hK0 K0
       have o77ba := o76ba.below j77a
       have EN77a := hide ((unhide EN76a).below j77a)
       have CB77a := hide ((unhide CB76a).below j77a)
       have CA77a := hide ((unhide CA76a).below j77a)
       clear j77a
       clear hE o76ba EN76a CB76a CA76a
       have hE := hE1
       clear hE1
       try simp only [Act.put, List.setIfInBounds_toArray, List.set_cons_zero, List.set_cons_succ]
       refine takeA 14 (some 63) ?va14x77 ⟨_, rfl, rfl, rfl, ?ya14x77⟩ ?_
       case ya14x77 => intro w0 hS; go_simp; try (with_reducible rfl)
       simp only [Act.put, List.setIfInBounds_toArray, List.set_cons_zero, List.set_cons_succ]
       refine takeA 15 (some 78) ?va15x77 ⟨_, rfl, rfl, rfl, ?ya15x77⟩ ?_
       case ya15x77 => intro w0 hS; go_simp; try (with_reducible rfl)
       simp only [Act.put, List.setIfInBounds_toArray, List.set_cons_zero, List.set_cons_succ]
       refine takeA 16 (some 79) ?va16x77 ⟨_, rfl, rfl, rfl, ?ya16x77⟩ ?_
       case ya16x77 => intro w0 hS; go_simp; try (with_reducible rfl)
       simp only [Act.put, List.setIfInBounds_toArray, List.set_cons_zero, List.set_cons_succ]
       refine wpAnyH_ready (rs := [18]) (by kernel_rfl) (by simp) ?_
       refine AllReadyH.cons rfl (fun K0 hK0 => ?_) AllReadyH.nil
       obtain ⟨⟨-, e0, e1, e2, e3, e4, e5⟩, f0, f1, f2, f3, f4, f5⟩ := id o77ba
       simp only [Nat.zero_add] at e0 e1 e2 e3 e4 e5
       go_simp
       clear e0 e1 e2 e3 e4 e5 f0 f1 f2 f3 f4 f5
       refine hK0.out _ _ ?hS78a (fun hE1 => ?_)
       case hS78a => exact unhide SK _ (set6 hE.1 (by omega) _ _ _ _ _ _)
       clear hK0 K0
       have s78ba := Own.put o77ba 2 false R 0 ⟨#[]⟩ az 0 cz
       generalize ((((((u77a.setCell ⟨g76a, 0, none⟩ (.int .i64 2)).setCell ⟨g76a, 1, none⟩ (.bool false)).setCell ⟨g76a, 2, none⟩ (.int .i64 R)).setCell ⟨g76a, 3, none⟩ (.int .i64 0)).setCell ⟨g76a, 4, none⟩ (.string ⟨#[]⟩)).setCell ⟨g76a, 5, none⟩ (.slice az 0 cz)) = u78a at *
       clear hE o77ba EN77a CB77a CA77a
       have hE := hE1
       clear hE1
       try simp only [Act.put, List.setIfInBounds_toArray, List.set_cons_zero, List.set_cons_succ]
       refine takeA 19 (some 13) ?va19x78 ⟨_, rfl, rfl, rfl, ?ya19x78⟩ ?_
       case ya19x78 => intro w0 hS; go_simp; try (with_reducible rfl)
       simp only [Act.put, List.setIfInBounds_toArray, List.set_cons_zero, List.set_cons_succ]
       refine wpAnyH_done (by kernel_rfl) ?_ _
       refine NoPanic.normal ?_
       obtain ⟨y0, y1, y2, y3, y4, y5, y6⟩ := s78ba
       simp only [Nat.zero_add] at y1 y2 y3 y4 y5 y6
       have BZ := hE.1
       clear hE
       go_wp2_with fail
       go_meet
       exact ⟨_, _, _, _, rfl, rfl, ⟨y1, y2, y3, y4, y5, y6⟩, hide (in_leaf2 (unhide HT)), BZ⟩
     ·skip
      go_simp
      refine hK0.out _ _ ?hS79a (fun hE1 => ?_)
      case hS79a => exact unhide SK _ (keep_alloc hE _)
      clear hK0 K0
      have j79a := below1 u70a (Obj.cells #[.int .i64 0, .bool false, .int .i64 0, .int .i64 0, .string ⟨#[]⟩, .slice none 0 0] 32)
      have z79a : V.heap.size ≤ u70a.heap.size := hE.1.size
      have EN79a := hide ((unhide EN70a).below j79a)
      have CB79a := hide ((unhide CB70a).below j79a)
      have CA79a := hide ((unhide CA70a).below j79a)
      have o79ba := Own.new u70a 32
      generalize u70a.alloc (Obj.cells #[.int .i64 0, .bool false, .int .i64 0, .int .i64 0, .string ⟨#[]⟩, .slice none 0 0] 32) = u79a at *
      generalize u70a.heap.size = g79a at *
      clear j79a
      clear hE EN70a CB70a CA70a
      have hE := hE1
      clear hE1
      try simp only [Act.put, List.setIfInBounds_toArray, List.set_cons_zero, List.set_cons_succ]
      refine wpAnyH_ready (rs := [9]) (by kernel_rfl) (by simp) ?_
      refine AllReadyH.cons rfl (fun K0 hK0 => ?_) AllReadyH.nil
      have hcl := (unhide CB79a : _ = _)
      go_simp
      clear hcl
      refine hK0.out _ _ ?hS80a (fun hE1 => ?_)
      case hS80a => exact hE
      clear hK0 K0 hE
      have hE := hE1
      clear hE1
      try simp only [Act.put, List.setIfInBounds_toArray, List.set_cons_zero, List.set_cons_succ]
      refine takeA 10 (some 74) ?va10x80 ⟨_, rfl, rfl, rfl, ?ya10x80⟩ ?_
      case ya10x80 => intro w0 hS; go_simp; (first | done | (with_reducible rfl) | (rw [if_neg (by omega)]; done) | skip)
      simp only [Act.put, List.setIfInBounds_toArray, List.set_cons_zero, List.set_cons_succ]
      refine takeA 11 (some 75) ?va11x80 ⟨_, rfl, rfl, rfl, ?ya11x80⟩ ?_
      case ya11x80 => intro w0 hS; go_simp; (first | done | (with_reducible rfl) | (rw [if_neg (by omega)]; done) | skip)
      simp only [Act.put, List.setIfInBounds_toArray, List.set_cons_zero, List.set_cons_succ]
      refine wpAnyH_ready (rs := [13]) (by kernel_rfl) (by simp) ?_
      refine AllReadyH.cons rfl (fun K0 hK0 => ?_) AllReadyH.nil
      go_simp
      refine (unhide TD _ _ (unhide EN79a)).mono ?_
      rintro e u81a ⟨⟨v, rfl, T, rfl, hT, hTl, hTb⟩, j81a⟩
      obtain ⟨az, cz, kidz, rfl⟩ := num_form hT hTb
      have HT := hide hT
      clear hT hTl hTb
      dsimp only [VT.val]
      go_wp2_with fail
      refine hK0.out _ _ ?hS81a (fun hE1 => ?_)
      case hS81a => exact unhide SK _ (keep_call hE j81a)
      clear hK0 K0
      have o81ba := o79ba.below j81a
      have EN81a := hide ((unhide EN79a).below j81a)
      have CB81a := hide ((unhide CB79a).below j81a)
      have CA81a := hide ((unhide CA79a).below j81a)
      clear j81a
      clear hE o79ba EN79a CB79a CA79a
      have hE := hE1
      clear hE1
      try simp only [Act.put, List.setIfInBounds_toArray, List.set_cons_zero, List.set_cons_succ]
      refine takeA 14 (some 63) ?va14x81 ⟨_, rfl, rfl, rfl, ?ya14x81⟩ ?_
      case ya14x81 => intro w0 hS; go_simp; try (with_reducible rfl)
      simp only [Act.put, List.setIfInBounds_toArray, List.set_cons_zero, List.set_cons_succ]
      refine takeA 15 (some 78) ?va15x81 ⟨_, rfl, rfl, rfl, ?ya15x81⟩ ?_
      case ya15x81 => intro w0 hS; go_simp; try (with_reducible rfl)
      simp only [Act.put, List.setIfInBounds_toArray, List.set_cons_zero, List.set_cons_succ]
      refine takeA 16 (some 79) ?va16x81 ⟨_, rfl, rfl, rfl, ?ya16x81⟩ ?_
      case ya16x81 => intro w0 hS; go_simp; try (with_reducible rfl)
      simp only [Act.put, List.setIfInBounds_toArray, List.set_cons_zero, List.set_cons_succ]
      refine wpAnyH_ready (rs := [18]) (by kernel_rfl) (by simp) ?_
      refine AllReadyH.cons rfl (fun K0 hK0 => ?_) AllReadyH.nil
      obtain ⟨⟨-, e0, e1, e2, e3, e4, e5⟩, f0, f1, f2, f3, f4, f5⟩ := id o81ba
      simp only [Nat.zero_add] at e0 e1 e2 e3 e4 e5
      go_simp
      clear e0 e1 e2 e3 e4 e5 f0 f1 f2 f3 f4 f5
      refine hK0.out _ _ ?hS82a (fun hE1 => ?_)
      case hS82a => exact unhide SK _ (set6 hE.1 (by omega) _ _ _ _ _ _)
      clear hK0 K0
      have s82ba := Own.put o81ba 2 false R 0 ⟨#[]⟩ az 0 cz
      generalize ((((((u81a.setCell ⟨g79a, 0, none⟩ (.int .i64 2)).setCell ⟨g79a, 1, none⟩ (.bool false)).setCell ⟨g79a, 2, none⟩ (.int .i64 R)).setCell ⟨g79a, 3, none⟩ (.int .i64 0)).setCell ⟨g79a, 4, none⟩ (.string ⟨#[]⟩)).setCell ⟨g79a, 5, none⟩ (.slice az 0 cz)) = u82a at *
      clear hE o81ba EN81a CB81a CA81a
      have hE := hE1
      clear hE1
      try simp only [Act.put, List.setIfInBounds_toArray, List.set_cons_zero, List.set_cons_succ]
      refine takeA 19 (some 13) ?va19x82 ⟨_, rfl, rfl, rfl, ?ya19x82⟩ ?_
      case ya19x82 => intro w0 hS; go_simp; try (with_reducible rfl)
      simp only [Act.put, List.setIfInBounds_toArray, List.set_cons_zero, List.set_cons_succ]
      refine wpAnyH_done (by kernel_rfl) ?_ _
      refine NoPanic.normal ?_
      obtain ⟨y0, y1, y2, y3, y4, y5, y6⟩ := s82ba
      simp only [Nat.zero_add] at y1 y2 y3 y4 y5 y6
      have BZ := hE.1
      clear hE
      go_wp2_with fail
      go_meet
      exact ⟨_, _, _, _, rfl, rfl, ⟨y1, y2, y3, y4, y5, y6⟩, hide (in_leaf2 (unhide HT)), BZ⟩
    ·skip
     have hcl := (unhide CB70a : _ = _)
     go_simp
     clear hcl
     refine hK0.out _ _ ?hS83a (fun hE1 => ?_)
     case hS83a => exact hE
     clear hK0 K0 hE
     have hE := hE1
     clear hE1
     try simp only [Act.put, List.setIfInBounds_toArray, List.set_cons_zero, List.set_cons_succ]
     refine wpAnyH_ready (rs := [3, 17]) (by kernel_rfl) (by simp) ?_
     refine AllReadyH.cons rfl (fun K0 hK0 => ?_) (AllReadyH.cons rfl (fun K0 hK0 => ?_) AllReadyH.nil)
     ·skip
      have hcl := (unhide CA70a : _ = _)
      go_simp
      clear hcl
      refine hK0.out _ _ ?hS84a (fun hE1 => ?_)
      case hS84a => exact hE
      clear hK0 K0 hE
      have hE := hE1
      clear hE1
      try simp only [Act.put, List.setIfInBounds_toArray, List.set_cons_zero, List.set_cons_succ]
      refine takeA 4 (some 68) ?va4x84 ⟨_, rfl, rfl, rfl, ?ya4x84⟩ ?_
      case ya4x84 => intro w0 hS; go_simp; (first | done | (with_reducible rfl) | (rw [if_neg (by omega)]; done) | skip)
      simp only [Act.put, List.setIfInBounds_toArray, List.set_cons_zero, List.set_cons_succ]
      refine takeA 5 (some 69) ?va5x84 ⟨_, rfl, rfl, rfl, ?ya5x84⟩ ?_
      case ya5x84 => intro w0 hS; go_simp; (first | done | (with_reducible rfl) | (rw [if_neg (by omega)]; done) | skip)
      simp only [Act.put, List.setIfInBounds_toArray, List.set_cons_zero, List.set_cons_succ]
      refine takeA 10 (some 74) ?va10x84 ⟨_, rfl, rfl, rfl, ?ya10x84⟩ ?_
      case ya10x84 => intro w0 hS; go_simp; (first | done | (with_reducible rfl) | (rw [if_neg (by omega)]; done) | skip)
      simp only [Act.put, List.setIfInBounds_toArray, List.set_cons_zero, List.set_cons_succ]
      refine takeA 11 (some 75) ?va11x84 ⟨_, rfl, rfl, rfl, ?ya11x84⟩ ?_
      case ya11x84 => intro w0 hS; go_simp; (first | done | (with_reducible rfl) | (rw [if_neg (by omega)]; done) | skip)
      simp only [Act.put, List.setIfInBounds_toArray, List.set_cons_zero, List.set_cons_succ]
      refine wpAnyH_ready (rs := [13, 17]) (by kernel_rfl) (by simp) ?_
      refine AllReadyH.cons rfl (fun K0 hK0 => ?_) (AllReadyH.cons rfl (fun K0 hK0 => ?_) AllReadyH.nil)
      ·skip
       go_simp
       refine (unhide TD _ _ (unhide EN70a)).mono ?_
       rintro e u85a ⟨⟨v, rfl, T, rfl, hT, hTl, hTb⟩, j85a⟩
       obtain ⟨az, cz, kidz, rfl⟩ := num_form hT hTb
       have HT := hide hT
       clear hT hTl hTb
       dsimp only [VT.val]
       go_wp2_with fail
       refine hK0.out _ _ ?hS85a (fun hE1 => ?_)
       case hS85a => exact unhide SK _ (keep_call hE j85a)
       clear hK0 K0
       have EN85a := hide ((unhide EN70a).below j85a)
       have CB85a := hide ((unhide CB70a).below j85a)
       have CA85a := hide ((unhide CA70a).below j85a)
       clear j85a
       clear hE EN70a CB70a CA70a
       have hE := hE1
       clear hE1
       try simp only [Act.put, List.setIfInBounds_toArray, List.set_cons_zero, List.set_cons_succ]
       refine takeA 14 (some 63) ?va14x85 ⟨_, rfl, rfl, rfl, ?ya14x85⟩ ?_
       case ya14x85 => intro w0 hS; go_simp; try (with_reducible rfl)
       simp only [Act.put, List.setIfInBounds_toArray, List.set_cons_zero, List.set_cons_succ]
       refine takeA 15 (some 78) ?va15x85 ⟨_, rfl, rfl, rfl, ?ya15x85⟩ ?_
       case ya15x85 => intro w0 hS; go_simp; try (with_reducible rfl)
       simp only [Act.put, List.setIfInBounds_toArray, List.set_cons_zero, List.set_cons_succ]
       refine takeA 16 (some 79) ?va16x85 ⟨_, rfl, rfl, rfl, ?ya16x85⟩ ?_
       case ya16x85 => intro w0 hS; go_simp; try (with_reducible rfl)
       simp only [Act.put, List.setIfInBounds_toArray, List.set_cons_zero, List.set_cons_succ]
       refine wpAnyH_ready (rs := [17]) (by kernel_rfl) (by simp) ?_
       refine AllReadyH.cons rfl (fun K0 hK0 => ?_) AllReadyH.nil
       go_simp
       refine hK0.out _ _ ?hS86a (fun hE1 => ?_)
       case hS86a => exact unhide SK _ (keep_alloc hE _)
       clear hK0 K0
       have j86a := below1 u85a (Obj.cells #[.int .i64 0, .bool false, .int .i64 0, .int .i64 0, .string ⟨#[]⟩, .slice none 0 0] 32)
       have z86a : V.heap.size ≤ u85a.heap.size := hE.1.size
       have EN86a := hide ((unhide EN85a).below j86a)
       have CB86a := hide ((unhide CB85a).below j86a)
       have CA86a := hide ((unhide CA85a).below j86a)
       have o86ba := Own.new u85a 32
       generalize u85a.alloc (Obj.cells #[.int .i64 0, .bool false, .int .i64 0, .int .i64 0, .string ⟨#[]⟩, .slice none 0 0] 32) = u86a at *
       generalize u85a.heap.size = g86a at *
       clear j86a
       clear hE EN85a CB85a CA85a
       have hE := hE1
       clear hE1
       try simp only [Act.put, List.setIfInBounds_toArray, List.set_cons_zero, List.set_cons_succ]
       refine wpAnyH_ready (rs := [18]) (by kernel_rfl) (by simp) ?_
       refine AllReadyH.cons rfl (fun K0 hK0 => ?_) AllReadyH.nil
       obtain ⟨⟨-, e0, e1, e2, e3, e4, e5⟩, f0, f1, f2, f3, f4, f5⟩ := id o86ba
       simp only [Nat.zero_add] at e0 e1 e2 e3 e4 e5
       go_simp
       clear e0 e1 e2 e3 e4 e5 f0 f1 f2 f3 f4 f5
       refine hK0.out _ _ ?hS87a (fun hE1 => ?_)
       case hS87a => exact unhide SK _ (set6 hE.1 (by omega) _ _ _ _ _ _)
       clear hK0 K0
       have s87ba := Own.put o86ba 2 false R 0 ⟨#[]⟩ az 0 cz
       generalize ((((((u86a.setCell ⟨g86a, 0, none⟩ (.int .i64 2)).setCell ⟨g86a, 1, none⟩ (.bool false)).setCell ⟨g86a, 2, none⟩ (.int .i64 R)).setCell ⟨g86a, 3, none⟩ (.int .i64 0)).setCell ⟨g86a, 4, none⟩ (.string ⟨#[]⟩)).setCell ⟨g86a, 5, none⟩ (.slice az 0 cz)) = u87a at *
       clear hE o86ba EN86a CB86a CA86a
       have hE := hE1
       clear hE1
       try simp only [Act.put, List.setIfInBounds_toArray, List.set_cons_zero, List.set_cons_succ]
       refine takeA 19 (some 13) ?va19x87 ⟨_, rfl, rfl, rfl, ?ya19x87⟩ ?_
       case ya19x87 => intro w0 hS; go_simp; try (with_reducible rfl)
       simp only [Act.put, List.setIfInBounds_toArray, List.set_cons_zero, List.set_cons_succ]
       refine wpAnyH_done (by kernel_rfl) ?_ _
       refine NoPanic.normal ?_
       obtain ⟨y0, y1, y2, y3, y4, y5, y6⟩ := s87ba
       simp only [Nat.zero_add] at y1 y2 y3 y4 y5 y6
       have BZ := hE.1
       clear hE
       go_wp2_with fail
       go_meet
       exact ⟨_, _, _, _, rfl, rfl, ⟨y1, y2, y3, y4, y5, y6⟩, hide (in_leaf2 (unhide HT)), BZ⟩
      ·skip
       go_simp
       refine hK0.out _ _ ?hS88a (fun hE1 => ?_)
       case hS88a => exact unhide SK _ (keep_alloc hE _)
       clear hK0 K0
       have j88a := below1 u70a (Obj.cells #[.int .i64 0, .bool false, .int .i64 0, .int .i64 0, .string ⟨#[]⟩, .slice none 0 0] 32)
       have z88a : V.heap.size ≤ u70a.heap.size := hE.1.size
       have EN88a := hide ((unhide EN70a).below j88a)
       have CB88a := hide ((unhide CB70a).below j88a)
       have CA88a := hide ((unhide CA70a).below j88a)
       have o88ba := Own.new u70a 32
       generalize u70a.alloc (Obj.cells #[.int .i64 0, .bool false, .int .i64 0, .int .i64 0, .string ⟨#[]⟩, .slice none 0 0] 32) = u88a at *
       generalize u70a.heap.size = g88a at *
       clear j88a
       clear hE EN70a CB70a CA70a
       have hE := hE1
       clear hE1
       try simp only [Act.put, List.setIfInBounds_toArray, List.set_cons_zero, List.set_cons_succ]
       refine wpAnyH_ready (rs := [13]) (by kernel_rfl) (by simp) ?_
       refine AllReadyH.cons rfl (fun K0 hK0 => ?_) AllReadyH.nil
       go_simp
       refine (unhide TD _ _ (unhide EN88a)).mono ?_
       rintro e u89a ⟨⟨v, rfl, T, rfl, hT, hTl, hTb⟩, j89a⟩
       obtain ⟨az, cz, kidz, rfl⟩ := num_form hT hTb
       have HT := hide hT
       clear hT hTl hTb
       dsimp only [VT.val]
       go_wp2_with fail
       refine hK0.out _ _ ?hS89a (fun hE1 => ?_)
       case hS89a => exact unhide SK _ (keep_call hE j89a)
       clear hK0 K0
       have o89ba := o88ba.below j89a
       have EN89a := hide ((unhide EN88a).below j89a)
       have CB89a := hide ((unhide CB88a).below j89a)
       have CA89a := hide ((unhide CA88a).below j89a)
       clear j89a
       clear hE o88ba EN88a CB88a CA88a
       have hE := hE1
       clear hE1
       try simp only [Act.put, List.setIfInBounds_toArray, List.set_cons_zero, List.set_cons_succ]
       refine takeA 14 (some 63) ?va14x89 ⟨_, rfl, rfl, rfl, ?ya14x89⟩ ?_
       case ya14x89 => intro w0 hS; go_simp; try (with_reducible rfl)
       simp only [Act.put, List.setIfInBounds_toArray, List.set_cons_zero, List.set_cons_succ]
       refine takeA 15 (some 78) ?va15x89 ⟨_, rfl, rfl, rfl, ?ya15x89⟩ ?_
       case ya15x89 => intro w0 hS; go_simp; try (with_reducible rfl)
       simp only [Act.put, List.setIfInBounds_toArray, List.set_cons_zero, List.set_cons_succ]
       refine takeA 16 (some 79) ?va16x89 ⟨_, rfl, rfl, rfl, ?ya16x89⟩ ?_
       case ya16x89 => intro w0 hS; go_simp; try (with_reducible rfl)
       simp only [Act.put, List.setIfInBounds_toArray, List.set_cons_zero, List.set_cons_succ]
       refine wpAnyH_ready (rs := [18]) (by kernel_rfl) (by simp) ?_
       refine AllReadyH.cons rfl (fun K0 hK0 => ?_) AllReadyH.nil
       obtain ⟨⟨-, e0, e1, e2, e3, e4, e5⟩, f0, f1, f2, f3, f4, f5⟩ := id o89ba
       simp only [Nat.zero_add] at e0 e1 e2 e3 e4 e5
       go_simp
       clear e0 e1 e2 e3 e4 e5 f0 f1 f2 f3 f4 f5
       refine hK0.out _ _ ?hS90a (fun hE1 => ?_)
       case hS90a => exact unhide SK _ (set6 hE.1 (by omega) _ _ _ _ _ _)
       clear hK0 K0
       have s90ba := Own.put o89ba 2 false R 0 ⟨#[]⟩ az 0 cz
       generalize ((((((u89a.setCell ⟨g88a, 0, none⟩ (.int .i64 2)).setCell ⟨g88a, 1, none⟩ (.bool false)).setCell ⟨g88a, 2, none⟩ (.int .i64 R)).setCell ⟨g88a, 3, none⟩ (.int .i64 0)).setCell ⟨g88a, 4, none⟩ (.string ⟨#[]⟩)).setCell ⟨g88a, 5, none⟩ (.slice az 0 cz)) = u90a at *
       clear hE o89ba EN89a CB89a CA89a
       have hE := hE1
       clear hE1
       try simp only [Act.put, List.setIfInBounds_toArray, List.set_cons_zero, List.set_cons_succ]
       refine takeA 19 (some 13) ?va19x90 ⟨_, rfl, rfl, rfl, ?ya19x90⟩ ?_
       case ya19x90 => intro w0 hS; go_simp; try (with_reducible rfl)
       simp only [Act.put, List.setIfInBounds_toArray, List.set_cons_zero, List.set_cons_succ]
       refine wpAnyH_done (by kernel_rfl) ?_ _
       refine NoPanic.normal ?_
       obtain ⟨y0, y1, y2, y3, y4, y5, y6⟩ := s90ba
       simp only [Nat.zero_add] at y1 y2 y3 y4 y5 y6
       have BZ := hE.1
       clear hE
       go_wp2_with fail
       go_meet
       exact ⟨_, _, _, _, rfl, rfl, ⟨y1, y2, y3, y4, y5, y6⟩, hide (in_leaf2 (unhide HT)), BZ⟩
     ·skip
      go_simp
      refine hK0.out _ _ ?hS91a (fun hE1 => ?_)
      case hS91a => exact unhide SK _ (keep_alloc hE _)
      clear hK0 K0
      have j91a := below1 u70a (Obj.cells #[.int .i64 0, .bool false, .int .i64 0, .int .i64 0, .string ⟨#[]⟩, .slice none 0 0] 32)
      have z91a : V.heap.size ≤ u70a.heap.size := hE.1.size
      have EN91a := hide ((unhide EN70a).below j91a)
      have CB91a := hide ((unhide CB70a).below j91a)
      have CA91a := hide ((unhide CA70a).below j91a)
      have o91ba := Own.new u70a 32
      generalize u70a.alloc (Obj.cells #[.int .i64 0, .bool false, .int .i64 0, .int .i64 0, .string ⟨#[]⟩, .slice none 0 0] 32) = u91a at *
      generalize u70a.heap.size = g91a at *
      clear j91a
      clear hE EN70a CB70a CA70a
      have hE := hE1
      clear hE1
      try simp only [Act.put, List.setIfInBounds_toArray, List.set_cons_zero, List.set_cons_succ]
      refine wpAnyH_ready (rs := [3]) (by kernel_rfl) (by simp) ?_
      refine AllReadyH.cons rfl (fun K0 hK0 => ?_) AllReadyH.nil
      have hcl := (unhide CA91a : _ = _)
      go_simp
      clear hcl
      refine hK0.out _ _ ?hS92a (fun hE1 => ?_)
      case hS92a => exact hE
      clear hK0 K0 hE
      have hE := hE1
      clear hE1
      try simp only [Act.put, List.setIfInBounds_toArray, List.set_cons_zero, List.set_cons_succ]
      refine takeA 4 (some 68) ?va4x92 ⟨_, rfl, rfl, rfl, ?ya4x92⟩ ?_
      case ya4x92 => intro w0 hS; go_simp; (first | done | (with_reducible rfl) | (rw [if_neg (by omega)]; done) | skip)
      simp only [Act.put, List.setIfInBounds_toArray, List.set_cons_zero, List.set_cons_succ]
      refine takeA 5 (some 69) ?va5x92 ⟨_, rfl, rfl, rfl, ?ya5x92⟩ ?_
      case ya5x92 => intro w0 hS; go_simp; (first | done | (with_reducible rfl) | (rw [if_neg (by omega)]; done) | skip)
      simp only [Act.put, List.setIfInBounds_toArray, List.set_cons_zero, List.set_cons_succ]
      refine takeA 10 (some 74) ?va10x92 ⟨_, rfl, rfl, rfl, ?ya10x92⟩ ?_
      case ya10x92 => intro w0 hS; go_simp; (first | done | (with_reducible rfl) | (rw [if_neg (by omega)]; done) | skip)
      simp only [Act.put, List.setIfInBounds_toArray, List.set_cons_zero, List.set_cons_succ]
      refine takeA 11 (some 75) ?va11x92 ⟨_, rfl, rfl, rfl, ?ya11x92⟩ ?_
      case ya11x92 => intro w0 hS; go_simp; (first | done | (with_reducible rfl) | (rw [if_neg (by omega)]; done) | skip)
      simp only [Act.put, List.setIfInBounds_toArray, List.set_cons_zero, List.set_cons_succ]
      refine wpAnyH_ready (rs := [13]) (by kernel_rfl) (by simp) ?_
      refine AllReadyH.cons rfl (fun K0 hK0 => ?_) AllReadyH.nil
      go_simp
      refine (unhide TD _ _ (unhide EN91a)).mono ?_
      rintro e u93a ⟨⟨v, rfl, T, rfl, hT, hTl, hTb⟩, j93a⟩
      obtain ⟨az, cz, kidz, rfl⟩ := num_form hT hTb
      have HT := hide hT
      clear hT hTl hTb
      dsimp only [VT.val]
      go_wp2_with fail
      refine hK0.out _ _ ?hS93a (fun hE1 => ?_)
      case hS93a => exact unhide SK _ (keep_call hE j93a)
      clear hK0 K0
      have o93ba := o91ba.below j93a
      have EN93a := hide ((unhide EN91a).below j93a)
      have CB93a := hide ((unhide CB91a).below j93a)
      have CA93a := hide ((unhide CA91a).below j93a)
      clear j93a
      clear hE o91ba EN91a CB91a CA91a
      have hE := hE1
      clear hE1
      try simp only [Act.put, List.setIfInBounds_toArray, List.set_cons_zero, List.set_cons_succ]
      refine takeA 14 (some 63) ?va14x93 ⟨_, rfl, rfl, rfl, ?ya14x93⟩ ?_
      case ya14x93 => intro w0 hS; go_simp; try (with_reducible rfl)
      simp only [Act.put, List.setIfInBounds_toArray, List.set_cons_zero, List.set_cons_succ]
      refine takeA 15 (some 78) ?va15x93 ⟨_, rfl, rfl, rfl, ?ya15x93⟩ ?_
      case ya15x93 => intro w0 hS; go_simp; try (with_reducible rfl)
      simp only [Act.put, List.setIfInBounds_toArray, List.set_cons_zero, List.set_cons_succ]
      refine takeA 16 (some 79) ?va16x93 ⟨_, rfl, rfl, rfl, ?ya16x93⟩ ?_
      case ya16x93 => intro w0 hS; go_simp; try (with_reducible rfl)
      simp only [Act.put, List.setIfInBounds_toArray, List.set_cons_zero, List.set_cons_succ]
      refine wpAnyH_ready (rs := [18]) (by kernel_rfl) (by simp) ?_
      refine AllReadyH.cons rfl (fun K0 hK0 => ?_) AllReadyH.nil
      obtain ⟨⟨-, e0, e1, e2, e3, e4, e5⟩, f0, f1, f2, f3, f4, f5⟩ := id o93ba
      simp only [Nat.zero_add] at e0 e1 e2 e3 e4 e5
      go_simp
      clear e0 e1 e2 e3 e4 e5 f0 f1 f2 f3 f4 f5
      refine hK0.out _ _ ?hS94a (fun hE1 => ?_)
      case hS94a => exact unhide SK _ (set6 hE.1 (by omega) _ _ _ _ _ _)
      clear hK0 K0
      have s94ba := Own.put o93ba 2 false R 0 ⟨#[]⟩ az 0 cz
      generalize ((((((u93a.setCell ⟨g91a, 0, none⟩ (.int .i64 2)).setCell ⟨g91a, 1, none⟩ (.bool false)).setCell ⟨g91a, 2, none⟩ (.int .i64 R)).setCell ⟨g91a, 3, none⟩ (.int .i64 0)).setCell ⟨g91a, 4, none⟩ (.string ⟨#[]⟩)).setCell ⟨g91a, 5, none⟩ (.slice az 0 cz)) = u94a at *
      clear hE o93ba EN93a CB93a CA93a
      have hE := hE1
      clear hE1
      try simp only [Act.put, List.setIfInBounds_toArray, List.set_cons_zero, List.set_cons_succ]
      refine takeA 19 (some 13) ?va19x94 ⟨_, rfl, rfl, rfl, ?ya19x94⟩ ?_
      case ya19x94 => intro w0 hS; go_simp; try (with_reducible rfl)
      simp only [Act.put, List.setIfInBounds_toArray, List.set_cons_zero, List.set_cons_succ]
      refine wpAnyH_done (by kernel_rfl) ?_ _
      refine NoPanic.normal ?_
      obtain ⟨y0, y1, y2, y3, y4, y5, y6⟩ := s94ba
      simp only [Nat.zero_add] at y1 y2 y3 y4 y5 y6
      have BZ := hE.1
      clear hE
      go_wp2_with fail
      go_meet
      exact ⟨_, _, _, _, rfl, rfl, ⟨y1, y2, y3, y4, y5, y6⟩, hide (in_leaf2 (unhide HT)), BZ⟩
    ·skip
     go_simp
     refine hK0.out _ _ ?hS95a (fun hE1 => ?_)
     case hS95a => exact unhide SK _ (keep_alloc hE _)
     clear hK0 K0
     have j95a := below1 u70a (Obj.cells #[.int .i64 0, .bool false, .int .i64 0, .int .i64 0, .string ⟨#[]⟩, .slice none 0 0] 32)
     have z95a : V.heap.size ≤ u70a.heap.size := hE.1.size
     have EN95a := hide ((unhide EN70a).below j95a)
     have CB95a := hide ((unhide CB70a).below j95a)
     have CA95a := hide ((unhide CA70a).below j95a)
     have o95ba := Own.new u70a 32
     generalize u70a.alloc (Obj.cells #[.int .i64 0, .bool false, .int .i64 0, .int .i64 0, .string ⟨#[]⟩, .slice none 0 0] 32) = u95a at *
     generalize u70a.heap.size = g95a at *
     clear j95a
     clear hE EN70a CB70a CA70a
     have hE := hE1
     clear hE1
     try simp only [Act.put, List.setIfInBounds_toArray, List.set_cons_zero, List.set_cons_succ]
     refine wpAnyH_ready (rs := [3, 9]) (by kernel_rfl) (by simp) ?_
     refine AllReadyH.cons rfl (fun K0 hK0 => ?_) (AllReadyH.cons rfl (fun K0 hK0 => ?_) AllReadyH.nil)
     ·skip
      have hcl := (unhide CA95a : _ = _)
      go_simp
      clear hcl
      refine hK0.out _ _ ?hS96a (fun hE1 => ?_)
      case hS96a => exact hE
      clear hK0 K0 hE
      have hE := hE1
      clear hE1
      try simp only [Act.put, List.setIfInBounds_toArray, List.set_cons_zero, List.set_cons_succ]
      refine takeA 4 (some 68) ?va4x96 ⟨_, rfl, rfl, rfl, ?ya4x96⟩ ?_
      case ya4x96 => intro w0 hS; go_simp; (first | done | (with_reducible rfl) | (rw [if_neg (by omega)]; done) | skip)
      simp only [Act.put, List.setIfInBounds_toArray, List.set_cons_zero, List.set_cons_succ]
      refine takeA 5 (some 69) ?va5x96 ⟨_, rfl, rfl, rfl, ?ya5x96⟩ ?_
      case ya5x96 => intro w0 hS; go_simp; (first | done | (with_reducible rfl) | (rw [if_neg (by omega)]; done) | skip)
      simp only [Act.put, List.setIfInBounds_toArray, List.set_cons_zero, List.set_cons_succ]
      refine wpAnyH_ready (rs := [9]) (by kernel_rfl) (by simp) ?_
      refine AllReadyH.cons rfl (fun K0 hK0 => ?_) AllReadyH.nil
      have hcl := (unhide CB95a : _ = _)
      go_simp
      clear hcl
      refine hK0.out _ _ ?hS97a (fun hE1 => ?_)
      case hS97a => exact hE
      clear hK0 K0 hE
      have hE := hE1
      clear hE1
      try simp only [Act.put, List.setIfInBounds_toArray, List.set_cons_zero, List.set_cons_succ]
      refine takeA 10 (some 74) ?va10x97 ⟨_, rfl, rfl, rfl, ?ya10x97⟩ ?_
      case ya10x97 => intro w0 hS; go_simp; (first | done | (with_reducible rfl) | (rw [if_neg (by omega)]; done) | skip)
      simp only [Act.put, List.setIfInBounds_toArray, List.set_cons_zero, List.set_cons_succ]
      refine takeA 11 (some 75) ?va11x97 ⟨_, rfl, rfl, rfl, ?ya11x97⟩ ?_
      case ya11x97 => intro w0 hS; go_simp; (first | done | (with_reducible rfl) | (rw [if_neg (by omega)]; done) | skip)
      simp only [Act.put, List.setIfInBounds_toArray, List.set_cons_zero, List.set_cons_succ]
      refine wpAnyH_ready (rs := [13]) (by kernel_rfl) (by simp) ?_
      refine AllReadyH.cons rfl (fun K0 hK0 => ?_) AllReadyH.nil
      go_simp
      refine (unhide TD _ _ (unhide EN95a)).mono ?_
      rintro e u98a ⟨⟨v, rfl, T, rfl, hT, hTl, hTb⟩, j98a⟩
      obtain ⟨az, cz, kidz, rfl⟩ := num_form hT hTb
      have HT := hide hT
      clear hT hTl hTb
      dsimp only [VT.val]
      go_wp2_with fail
      refine hK0.out _ _ ?hS98a (fun hE1 => ?_)
      case hS98a => exact unhide SK _ (keep_call hE j98a)
      clear hK0 K0
      have o98ba := o95ba.below j98a
      have EN98a := hide ((unhide EN95a).below j98a)
      have CB98a := hide ((unhide CB95a).below j98a)
      have CA98a := hide ((unhide CA95a).below j98a)
      clear j98a
      clear hE o95ba EN95a CB95a CA95a
      have hE := hE1
      clear hE1
      try simp only [Act.put, List.setIfInBounds_toArray, List.set_cons_zero, List.set_cons_succ]
      refine takeA 14 (some 63) ?va14x98 ⟨_, rfl, rfl, rfl, ?ya14x98⟩ ?_
      case ya14x98 => intro w0 hS; go_simp; try (with_reducible rfl)
      simp only [Act.put, List.setIfInBounds_toArray, List.set_cons_zero, List.set_cons_succ]
      refine takeA 15 (some 78) ?va15x98 ⟨_, rfl, rfl, rfl, ?ya15x98⟩ ?_
      case ya15x98 => intro w0 hS; go_simp; try (with_reducible rfl)
      simp only [Act.put, List.setIfInBounds_toArray, List.set_cons_zero, List.set_cons_succ]
      refine takeA 16 (some 79) ?va16x98 ⟨_, rfl, rfl, rfl, ?ya16x98⟩ ?_
      case ya16x98 => intro w0 hS; go_simp; try (with_reducible rfl)
      simp only [Act.put, List.setIfInBounds_toArray, List.set_cons_zero, List.set_cons_succ]
      refine wpAnyH_ready (rs := [18]) (by kernel_rfl) (by simp) ?_
      refine AllReadyH.cons rfl (fun K0 hK0 => ?_) AllReadyH.nil
      obtain ⟨⟨-, e0, e1, e2, e3, e4, e5⟩, f0, f1, f2, f3, f4, f5⟩ := id o98ba
      simp only [Nat.zero_add] at e0 e1 e2 e3 e4 e5
      go_simp
      clear e0 e1 e2 e3 e4 e5 f0 f1 f2 f3 f4 f5
      refine hK0.out _ _ ?hS99a (fun hE1 => ?_)
      case hS99a => exact unhide SK _ (set6 hE.1 (by omega) _ _ _ _ _ _)
      clear hK0 K0
      have s99ba := Own.put o98ba 2 false R 0 ⟨#[]⟩ az 0 cz
      generalize ((((((u98a.setCell ⟨g95a, 0, none⟩ (.int .i64 2)).setCell ⟨g95a, 1, none⟩ (.bool false)).setCell ⟨g95a, 2, none⟩ (.int .i64 R)).setCell ⟨g95a, 3, none⟩ (.int .i64 0)).setCell ⟨g95a, 4, none⟩ (.string ⟨#[]⟩)).setCell ⟨g95a, 5, none⟩ (.slice az 0 cz)) = u99a at *
      clear hE o98ba EN98a CB98a CA98a
      have hE := hE1
      clear hE1
      try simp only [Act.put, List.setIfInBounds_toArray, List.set_cons_zero, List.set_cons_succ]
      refine takeA 19 (some 13) ?va19x99 ⟨_, rfl, rfl, rfl, ?ya19x99⟩ ?_
      case ya19x99 => intro w0 hS; go_simp; try (with_reducible rfl)
      simp only [Act.put, List.setIfInBounds_toArray, List.set_cons_zero, List.set_cons_succ]
      refine wpAnyH_done (by kernel_rfl) ?_ _
      refine NoPanic.normal ?_
      obtain ⟨y0, y1, y2, y3, y4, y5, y6⟩ := s99ba
      simp only [Nat.zero_add] at y1 y2 y3 y4 y5 y6
      have BZ := hE.1
      clear hE
      go_wp2_with fail
      go_meet
      exact ⟨_, _, _, _, rfl, rfl, ⟨y1, y2, y3, y4, y5, y6⟩, hide (in_leaf2 (unhide HT)), BZ⟩
     ·skip
      have hcl := (unhide CB95a : _ = _)
      go_simp
      clear hcl
      refine hK0.out _ _ ?hS100a (fun hE1 => ?_)
      case hS100a => exact hE
      clear hK0 K0 hE
      have hE := hE1
      clear hE1
      try simp only [Act.put, List.setIfInBounds_toArray, List.set_cons_zero, List.set_cons_succ]
      refine wpAnyH_ready (rs := [3]) (by kernel_rfl) (by simp) ?_
      refine AllReadyH.cons rfl (fun K0 hK0 => ?_) AllReadyH.nil
      have hcl := (unhide CA95a : _ = _)
      go_simp
      clear hcl
      refine hK0.out _ _ ?hS101a (fun hE1 => ?_)
      case hS101a => exact hE
      clear hK0 K0 hE
      have hE := hE1
      clear hE1
      try simp only [Act.put, List.setIfInBounds_toArray, List.set_cons_zero, List.set_cons_succ]
      refine takeA 4 (some 68) ?va4x101 ⟨_, rfl, rfl, rfl, ?ya4x101⟩ ?_
      case ya4x101 => intro w0 hS; go_simp; (first | done | (with_reducible rfl) | (rw [if_neg (by omega)]; done) | skip)
      simp only [Act.put, List.setIfInBounds_toArray, List.set_cons_zero, List.set_cons_succ]
      refine takeA 5 (some 69) ?va5x101 ⟨_, rfl, rfl, rfl, ?ya5x101⟩ ?_
      case ya5x101 => intro w0 hS; go_simp; (first | done | (with_reducible rfl) | (rw [if_neg (by omega)]; done) | skip)
      simp only [Act.put, List.setIfInBounds_toArray, List.set_cons_zero, List.set_cons_succ]
      refine takeA 10 (some 74) ?va10x101 ⟨_, rfl, rfl, rfl, ?ya10x101⟩ ?_
      case ya10x101 => intro w0 hS; go_simp; (first | done | (with_reducible rfl) | (rw [if_neg (by omega)]; done) | skip)
      simp only [Act.put, List.setIfInBounds_toArray, List.set_cons_zero, List.set_cons_succ]
      refine takeA 11 (some 75) ?va11x101 ⟨_, rfl, rfl, rfl, ?ya11x101⟩ ?_
      case ya11x101 => intro w0 hS; go_simp; (first | done | (with_reducible rfl) | (rw [if_neg (by omega)]; done) | skip)
      simp only [Act.put, List.setIfInBounds_toArray, List.set_cons_zero, List.set_cons_succ]
      refine wpAnyH_ready (rs := [13]) (by kernel_rfl) (by simp) ?_
      refine AllReadyH.cons rfl (fun K0 hK0 => ?_) AllReadyH.nil
      go_simp
      refine (unhide TD _ _ (unhide EN95a)).mono ?_
      rintro e u102a ⟨⟨v, rfl, T, rfl, hT, hTl, hTb⟩, j102a⟩
      obtain ⟨az, cz, kidz, rfl⟩ := num_form hT hTb
      have HT := hide hT
      clear hT hTl hTb
      dsimp only [VT.val]
      go_wp2_with fail
      refine hK0.out _ _ ?hS102a (fun hE1 => ?_)
      case hS102a => exact unhide SK _ (keep_call hE j102a)
      clear hK0 K0
      have o102ba := o95ba.below j102a
      have EN102a := hide ((unhide EN95a).below j102a)
      have CB102a := hide ((unhide CB95a).below j102a)
      have CA102a := hide ((unhide CA95a).below j102a)
      clear j102a
      clear hE o95ba EN95a CB95a CA95a
      have hE := hE1
      clear hE1
      try simp only [Act.put, List.setIfInBounds_toArray, List.set_cons_zero, List.set_cons_succ]
      refine takeA 14 (some 63) ?va14x102 ⟨_, rfl, rfl, rfl, ?ya14x102⟩ ?_
      case ya14x102 => intro w0 hS; go_simp; try (with_reducible rfl)
      simp only [Act.put, List.setIfInBounds_toArray, List.set_cons_zero, List.set_cons_succ]
      refine takeA 15 (some 78) ?va15x102 ⟨_, rfl, rfl, rfl, ?ya15x102⟩ ?_
      case ya15x102 => intro w0 hS; go_simp; try (with_reducible rfl)
      simp only [Act.put, List.setIfInBounds_toArray, List.set_cons_zero, List.set_cons_succ]
      refine takeA 16 (some 79) ?va16x102 ⟨_, rfl, rfl, rfl, ?ya16x102⟩ ?_
      case ya16x102 => intro w0 hS; go_simp; try (with_reducible rfl)
      simp only [Act.put, List.setIfInBounds_toArray, List.set_cons_zero, List.set_cons_succ]
      refine wpAnyH_ready (rs := [18]) (by kernel_rfl) (by simp) ?_
      refine AllReadyH.cons rfl (fun K0 hK0 => ?_) AllReadyH.nil
      obtain ⟨⟨-, e0, e1, e2, e3, e4, e5⟩, f0, f1, f2, f3, f4, f5⟩ := id o102ba
      simp only [Nat.zero_add] at e0 e1 e2 e3 e4 e5
      go_simp
      clear e0 e1 e2 e3 e4 e5 f0 f1 f2 f3 f4 f5
      refine hK0.out _ _ ?hS103a (fun hE1 => ?_)
      case hS103a => exact unhide SK _ (set6 hE.1 (by omega) _ _ _ _ _ _)
      clear hK0 K0
      have s103ba := Own.put o102ba 2 false R 0 ⟨#[]⟩ az 0 cz
      generalize ((((((u102a.setCell ⟨g95a, 0, none⟩ (.int .i64 2)).setCell ⟨g95a, 1, none⟩ (.bool false)).setCell ⟨g95a, 2, none⟩ (.int .i64 R)).setCell ⟨g95a, 3, none⟩ (.int .i64 0)).setCell ⟨g95a, 4, none⟩ (.string ⟨#[]⟩)).setCell ⟨g95a, 5, none⟩ (.slice az 0 cz)) = u103a at *
      clear hE o102ba EN102a CB102a CA102a
      have hE := hE1
      clear hE1
      try simp only [Act.put, List.setIfInBounds_toArray, List.set_cons_zero, List.set_cons_succ]
      refine takeA 19 (some 13) ?va19x103 ⟨_, rfl, rfl, rfl, ?ya19x103⟩ ?_
      case ya19x103 => intro w0 hS; go_simp; try (with_reducible rfl)
      simp only [Act.put, List.setIfInBounds_toArray, List.set_cons_zero, List.set_cons_succ]
      refine wpAnyH_done (by kernel_rfl) ?_ _
      refine NoPanic.normal ?_
      obtain ⟨y0, y1, y2, y3, y4, y5, y6⟩ := s103ba
      simp only [Nat.zero_add] at y1 y2 y3 y4 y5 y6
      have BZ := hE.1
      clear hE
      go_wp2_with fail
      go_meet
      exact ⟨_, _, _, _, rfl, rfl, ⟨y1, y2, y3, y4, y5, y6⟩, hide (in_leaf2 (unhide HT)), BZ⟩
   ·skip
    have hcl := (unhide CB69a : _ = _)
    go_simp
    clear hcl
    refine hK0.out _ _ ?hS104a (fun hE1 => ?_)
    case hS104a => exact hE
    clear hK0 K0 hE
    have hE := hE1
    clear hE1
    try simp only [Act.put, List.setIfInBounds_toArray, List.set_cons_zero, List.set_cons_succ]
    refine wpAnyH_ready (rs := [0, 17]) (by kernel_rfl) (by simp) ?_
    refine AllReadyH.cons rfl (fun K0 hK0 => ?_) (AllReadyH.cons rfl (fun K0 hK0 => ?_) AllReadyH.nil)
    ·skip
     go_simp
     refine hK0.out _ _ ?hS105a (fun hE1 => ?_)
     case hS105a => exact unhide SK _ (keep_alloc hE _)
     clear hK0 K0
     have j105a := below1 u69a (Obj.cells #[.string ⟨#[43]⟩, .string ⟨#[45]⟩, .string ⟨#[42]⟩] 9)
     have z105a : V.heap.size ≤ u69a.heap.size := hE.1.size
     have EN105a := hide ((unhide EN69a).below j105a)
     have CB105a := hide ((unhide CB69a).below j105a)
     have CA105a := hide (cellIs_mk (w := u69a.alloc (Obj.cells #[.string ⟨#[43]⟩, .string ⟨#[45]⟩, .string ⟨#[42]⟩] 9)) (g := u69a.heap.size) (o := p) (v := .string ⟨P.toArray⟩) (unhide HCP u69a))
     generalize u69a.alloc (Obj.cells #[.string ⟨#[43]⟩, .string ⟨#[45]⟩, .string ⟨#[42]⟩] 9) = u105a at *
     generalize u69a.heap.size = g105a at *
     clear j105a
     clear hE EN69a CB69a
     have hE := hE1
     clear hE1
     try simp only [Act.put, List.setIfInBounds_toArray, List.set_cons_zero, List.set_cons_succ]
     refine takeA 2 (some 66) ?va2x105 ⟨_, rfl, rfl, rfl, ?ya2x105⟩ ?_
     case ya2x105 => intro w0 hS; go_simp; try (with_reducible rfl)
     simp only [Act.put, List.setIfInBounds_toArray, List.set_cons_zero, List.set_cons_succ]
     refine wpAnyH_ready (rs := [3, 17]) (by kernel_rfl) (by simp) ?_
     refine AllReadyH.cons rfl (fun K0 hK0 => ?_) (AllReadyH.cons rfl (fun K0 hK0 => ?_) AllReadyH.nil)
     ·skip
      have hcl := (unhide CA105a : _ = _)
      go_simp
      clear hcl
      refine hK0.out _ _ ?hS106a (fun hE1 => ?_)
      case hS106a => exact hE
      clear hK0 K0 hE
      have hE := hE1
      clear hE1
      try simp only [Act.put, List.setIfInBounds_toArray, List.set_cons_zero, List.set_cons_succ]
      refine takeA 4 (some 68) ?va4x106 ⟨_, rfl, rfl, rfl, ?ya4x106⟩ ?_
      case ya4x106 => intro w0 hS; go_simp; (first | done | (with_reducible rfl) | (rw [if_neg (by omega)]; done) | skip)
      simp only [Act.put, List.setIfInBounds_toArray, List.set_cons_zero, List.set_cons_succ]
      refine takeA 5 (some 69) ?va5x106 ⟨_, rfl, rfl, rfl, ?ya5x106⟩ ?_
      case ya5x106 => intro w0 hS; go_simp; (first | done | (with_reducible rfl) | (rw [if_neg (by omega)]; done) | skip)
      simp only [Act.put, List.setIfInBounds_toArray, List.set_cons_zero, List.set_cons_succ]
      refine takeA 10 (some 74) ?va10x106 ⟨_, rfl, rfl, rfl, ?ya10x106⟩ ?_
      case ya10x106 => intro w0 hS; go_simp; (first | done | (with_reducible rfl) | (rw [if_neg (by omega)]; done) | skip)
      simp only [Act.put, List.setIfInBounds_toArray, List.set_cons_zero, List.set_cons_succ]
      refine takeA 11 (some 75) ?va11x106 ⟨_, rfl, rfl, rfl, ?ya11x106⟩ ?_
      case ya11x106 => intro w0 hS; go_simp; (first | done | (with_reducible rfl) | (rw [if_neg (by omega)]; done) | skip)
      simp only [Act.put, List.setIfInBounds_toArray, List.set_cons_zero, List.set_cons_succ]
      refine wpAnyH_ready (rs := [13, 17]) (by kernel_rfl) (by simp) ?_
      refine AllReadyH.cons rfl (fun K0 hK0 => ?_) (AllReadyH.cons rfl (fun K0 hK0 => ?_) AllReadyH.nil)
      ·skip
       go_simp
       refine (unhide TD _ _ (unhide EN105a)).mono ?_
       rintro e u107a ⟨⟨v, rfl, T, rfl, hT, hTl, hTb⟩, j107a⟩
       obtain ⟨az, cz, kidz, rfl⟩ := num_form hT hTb
       have HT := hide hT
       clear hT hTl hTb
       dsimp only [VT.val]
       go_wp2_with fail
       refine hK0.out _ _ ?hS107a (fun hE1 => ?_)
       case hS107a => exact unhide SK _ (keep_call hE j107a)
       clear hK0 K0
       have EN107a := hide ((unhide EN105a).below j107a)
       have CB107a := hide ((unhide CB105a).below j107a)
       have CA107a := hide ((unhide CA105a).below j107a)
       clear j107a
       clear hE EN105a CB105a CA105a
       have hE := hE1
       clear hE1
       try simp only [Act.put, List.setIfInBounds_toArray, List.set_cons_zero, List.set_cons_succ]
       refine takeA 14 (some 63) ?va14x107 ⟨_, rfl, rfl, rfl, ?ya14x107⟩ ?_
       case ya14x107 => intro w0 hS; go_simp; try (with_reducible rfl)
       simp only [Act.put, List.setIfInBounds_toArray, List.set_cons_zero, List.set_cons_succ]
       refine takeA 15 (some 78) ?va15x107 ⟨_, rfl, rfl, rfl, ?ya15x107⟩ ?_
       case ya15x107 => intro w0 hS; go_simp; try (with_reducible rfl)
       simp only [Act.put, List.setIfInBounds_toArray, List.set_cons_zero, List.set_cons_succ]
       refine takeA 16 (some 79) ?va16x107 ⟨_, rfl, rfl, rfl, ?ya16x107⟩ ?_
       case ya16x107 => intro w0 hS; go_simp; try (with_reducible rfl)
       simp only [Act.put, List.setIfInBounds_toArray, List.set_cons_zero, List.set_cons_succ]
       refine wpAnyH_ready (rs := [17]) (by kernel_rfl) (by simp) ?_
       refine AllReadyH.cons rfl (fun K0 hK0 => ?_) AllReadyH.nil
       go_simp
       refine hK0.out _ _ ?hS108a (fun hE1 => ?_)
       case hS108a => exact unhide SK _ (keep_alloc hE _)
       clear hK0 K0
       have j108a := below1 u107a (Obj.cells #[.int .i64 0, .bool false, .int .i64 0, .int .i64 0, .string ⟨#[]⟩, .slice none 0 0] 32)
       have z108a : V.heap.size ≤ u107a.heap.size := hE.1.size
       have EN108a := hide ((unhide EN107a).below j108a)
       have CB108a := hide ((unhide CB107a).below j108a)
       have CA108a := hide ((unhide CA107a).below j108a)
       have o108ba := Own.new u107a 32
       generalize u107a.alloc (Obj.cells #[.int .i64 0, .bool false, .int .i64 0, .int .i64 0, .string ⟨#[]⟩, .slice none 0 0] 32) = u108a at *
       generalize u107a.heap.size = g108a at *
       clear j108a
       clear hE EN107a CB107a CA107a
       have hE := hE1
       clear hE1
       try simp only [Act.put, List.setIfInBounds_toArray, List.set_cons_zero, List.set_cons_succ]
       refine wpAnyH_ready (rs := [18]) (by kernel_rfl) (by simp) ?_
       refine AllReadyH.cons rfl (fun K0 hK0 => ?_) AllReadyH.nil
       obtain ⟨⟨-, e0, e1, e2, e3, e4, e5⟩, f0, f1, f2, f3, f4, f5⟩ := id o108ba
       simp only [Nat.zero_add] at e0 e1 e2 e3 e4 e5
       go_simp
       clear e0 e1 e2 e3 e4 e5 f0 f1 f2 f3 f4 f5
       refine hK0.out _ _ ?hS109a (fun hE1 => ?_)
       case hS109a => exact unhide SK _ (set6 hE.1 (by omega) _ _ _ _ _ _)
       clear hK0 K0
       have s109ba := Own.put o108ba 2 false R 0 ⟨#[]⟩ az 0 cz
       generalize ((((((u108a.setCell ⟨g108a, 0, none⟩ (.int .i64 2)).setCell ⟨g108a, 1, none⟩ (.bool false)).setCell ⟨g108a, 2, none⟩ (.int .i64 R)).setCell ⟨g108a, 3, none⟩ (.int .i64 0)).setCell ⟨g108a, 4, none⟩ (.string ⟨#[]⟩)).setCell ⟨g108a, 5, none⟩ (.slice az 0 cz)) = u109a at *
       clear hE o108ba EN108a CB108a CA108a
       have hE := hE1
       clear hE1
       try simp only [Act.put, List.setIfInBounds_toArray, List.set_cons_zero, List.set_cons_succ]
       refine takeA 19 (some 13) ?va19x109 ⟨_, rfl, rfl, rfl, ?ya19x109⟩ ?_
       case ya19x109 => intro w0 hS; go_simp; try (with_reducible rfl)
       simp only [Act.put, List.setIfInBounds_toArray, List.set_cons_zero, List.set_cons_succ]
       refine wpAnyH_done (by kernel_rfl) ?_ _
       refine NoPanic.normal ?_
       obtain ⟨y0, y1, y2, y3, y4, y5, y6⟩ := s109ba
       simp only [Nat.zero_add] at y1 y2 y3 y4 y5 y6
       have BZ := hE.1
       clear hE
       go_wp2_with fail
       go_meet
       exact ⟨_, _, _, _, rfl, rfl, ⟨y1, y2, y3, y4, y5, y6⟩, hide (in_leaf2 (unhide HT)), BZ⟩
      ·skip
       go_simp
       refine hK0.out _ _ ?hS110a (fun hE1 => ?_)
       case hS110a => exact unhide SK _ (keep_alloc hE _)
       clear hK0 K0
       have j110a := below1 u105a (Obj.cells #[.int .i64 0, .bool false, .int .i64 0, .int .i64 0, .string ⟨#[]⟩, .slice none 0 0] 32)
       have z110a : V.heap.size ≤ u105a.heap.size := hE.1.size
       have EN110a := hide ((unhide EN105a).below j110a)
       have CB110a := hide ((unhide CB105a).below j110a)
       have CA110a := hide ((unhide CA105a).below j110a)
       have o110ba := Own.new u105a 32
       generalize u105a.alloc (Obj.cells #[.int .i64 0, .bool false, .int .i64 0, .int .i64 0, .string ⟨#[]⟩, .slice none 0 0] 32) = u110a at *
       generalize u105a.heap.size = g110a at *
       clear j110a
       clear hE EN105a CB105a CA105a
       have hE := hE1
       clear hE1
       try simp only [Act.put, List.setIfInBounds_toArray, List.set_cons_zero, List.set_cons_succ]
       refine wpAnyH_ready (rs := [13]) (by kernel_rfl) (by simp) ?_
       refine AllReadyH.cons rfl (fun K0 hK0 => ?_) AllReadyH.nil
       go_simp
       refine (unhide TD _ _ (unhide EN110a)).mono ?_
       rintro e u111a ⟨⟨v, rfl, T, rfl, hT, hTl, hTb⟩, j111a⟩
       obtain ⟨az, cz, kidz, rfl⟩ := num_form hT hTb
       have HT := hide hT
       clear hT hTl hTb
       dsimp only [VT.val]
       go_wp2_with fail
       refine hK0.out _ _ ?hS111a (fun hE1 => ?_)
       case hS111a => exact unhide SK _ (keep_call hE j111a)
       clear hK0 K0
       have o111ba := o110ba.below j111a
       have EN111a := hide ((unhide EN110a).below j111a)
       have CB111a := hide ((unhide CB110a).below j111a)
       have CA111a := hide ((unhide CA110a).below j111a)
       clear j111a
       clear hE o110ba EN110a CB110a CA110a
       have hE := hE1
       clear hE1
       try simp only [Act.put, List.setIfInBounds_toArray, List.set_cons_zero, List.set_cons_succ]
       refine takeA 14 (some 63) ?va14x111 ⟨_, rfl, rfl, rfl, ?ya14x111⟩ ?_
       case ya14x111 => intro w0 hS; go_simp; try (with_reducible rfl)
       simp only [Act.put, List.setIfInBounds_toArray, List.set_cons_zero, List.set_cons_succ]
       refine takeA 15 (some 78) ?va15x111 ⟨_, rfl, rfl, rfl, ?ya15x111⟩ ?_
       case ya15x111 => intro w0 hS; go_simp; try (with_reducible rfl)
       simp only [Act.put, List.setIfInBounds_toArray, List.set_cons_zero, List.set_cons_succ]
       refine takeA 16 (some 79) ?va16x111 ⟨_, rfl, rfl, rfl, ?ya16x111⟩ ?_
       case ya16x111 => intro w0 hS; go_simp; try (with_reducible rfl)
       simp only [Act.put, List.setIfInBounds_toArray, List.set_cons_zero, List.set_cons_succ]
       refine wpAnyH_ready (rs := [18]) (by kernel_rfl) (by simp) ?_
       refine AllReadyH.cons rfl (fun K0 hK0 => ?_) AllReadyH.nil
       obtain ⟨⟨-, e0, e1, e2, e3, e4, e5⟩, f0, f1, f2, f3, f4, f5⟩ := id o111ba
       simp only [Nat.zero_add] at e0 e1 e2 e3 e4 e5
       go_simp
       clear e0 e1 e2 e3 e4 e5 f0 f1 f2 f3 f4 f5
       refine hK0.out _ _ ?hS112a (fun hE1 => ?_)
       case hS112a => exact unhide SK _ (set6 hE.1 (by omega) _ _ _ _ _ _)
       clear hK0 K0
       have s112ba := Own.put o111ba 2 false R 0 ⟨#[]⟩ az 0 cz
       generalize ((((((u111a.setCell ⟨g110a, 0, none⟩ (.int .i64 2)).setCell ⟨g110a, 1, none⟩ (.bool false)).setCell ⟨g110a, 2, none⟩ (.int .i64 R)).setCell ⟨g110a, 3, none⟩ (.int .i64 0)).setCell ⟨g110a, 4, none⟩ (.string ⟨#[]⟩)).setCell ⟨g110a, 5, none⟩ (.slice az 0 cz)) = u112a at *
       clear hE o111ba EN111a CB111a CA111a
       have hE := hE1
       clear hE1
       try simp only [Act.put, List.setIfInBounds_toArray, List.set_cons_zero, List.set_cons_succ]
       refine takeA 19 (some 13) ?va19x112 ⟨_, rfl, rfl, rfl, ?ya19x112⟩ ?_
       case ya19x112 => intro w0 hS; go_simp; try (with_reducible rfl)
       simp only [Act.put, List.setIfInBounds_toArray, List.set_cons_zero, List.set_cons_succ]
       refine wpAnyH_done (by kernel_rfl) ?_ _
       refine NoPanic.normal ?_
       obtain ⟨y0, y1, y2, y3, y4, y5, y6⟩ := s112ba
       simp only [Nat.zero_add] at y1 y2 y3 y4 y5 y6
       have BZ := hE.1
       clear hE
       go_wp2_with fail
       go_meet
       exact ⟨_, _, _, _, rfl, rfl, ⟨y1, y2, y3, y4, y5, y6⟩, hide (in_leaf2 (unhide HT)), BZ⟩
     ·skip
      go_simp
      refine hK0.out _ _ ?hS113a (fun hE1 => ?_)
      case hS113a => exact unhide SK _ (keep_alloc hE _)
      clear hK0 K0
      have j113a := below1 u105a (Obj.cells #[.int .i64 0, .bool false, .int .i64 0, .int .i64 0, .string ⟨#[]⟩, .slice none 0 0] 32)
      have z113a : V.heap.size ≤ u105a.heap.size := hE.1.size
      have EN113a := hide ((unhide EN105a).below j113a)
      have CB113a := hide ((unhide CB105a).below j113a)
      have CA113a := hide ((unhide CA105a).below j113a)
      have o113ba := Own.new u105a 32
      generalize u105a.alloc (Obj.cells #[.int .i64 0, .bool false, .int .i64 0, .int .i64 0, .string ⟨#[]⟩, .slice none 0 0] 32) = u113a at *
      generalize u105a.heap.size = g113a at *
      clear j113a
      clear hE EN105a CB105a CA105a
      have hE := hE1
      clear hE1
      try simp only [Act.put, List.setIfInBounds_toArray, List.set_cons_zero, List.set_cons_succ]
      refine wpAnyH_ready (rs := [3]) (by kernel_rfl) (by simp) ?_
      refine AllReadyH.cons rfl (fun K0 hK0 => ?_) AllReadyH.nil
      have hcl := (unhide CA113a : _ = _)
      go_simp
      clear hcl
      refine hK0.out _ _ ?hS114a (fun hE1 => ?_)
      case hS114a => exact hE
      clear hK0 K0 hE
      have hE := hE1
      clear hE1
      try simp only [Act.put, List.setIfInBounds_toArray, List.set_cons_zero, List.set_cons_succ]
      refine takeA 4 (some 68) ?va4x114 ⟨_, rfl, rfl, rfl, ?ya4x114⟩ ?_
      case ya4x114 => intro w0 hS; go_simp; (first | done | (with_reducible rfl) | (rw [if_neg (by omega)]; done) | skip)
      simp only [Act.put, List.setIfInBounds_toArray, List.set_cons_zero, List.set_cons_succ]
      refine takeA 5 (some 69) ?va5x114 ⟨_, rfl, rfl, rfl, ?ya5x114⟩ ?_
      case ya5x114 => intro w0 hS; go_simp; (first | done | (with_reducible rfl) | (rw [if_neg (by omega)]; done) | skip)
      simp only [Act.put, List.setIfInBounds_toArray, List.set_cons_zero, List.set_cons_succ]
      refine takeA 10 (some 74) ?va10x114 ⟨_, rfl, rfl, rfl, ?ya10x114⟩ ?_
      case ya10x114 => intro w0 hS; go_simp; (first | done | (with_reducible rfl) | (rw [if_neg (by omega)]; done) | skip)
      simp only [Act.put, List.setIfInBounds_toArray, List.set_cons_zero, List.set_cons_succ]
      refine takeA 11 (some 75) ?va11x114 ⟨_, rfl, rfl, rfl, ?ya11x114⟩ ?_
      case ya11x114 => intro w0 hS; go_simp; (first | done | (with_reducible rfl) | (rw [if_neg (by omega)]; done) | skip)
      simp only [Act.put, List.setIfInBounds_toArray, List.set_cons_zero, List.set_cons_succ]
      refine wpAnyH_ready (rs := [13]) (by kernel_rfl) (by simp) ?_
      refine AllReadyH.cons rfl (fun K0 hK0 => ?_) AllReadyH.nil
      go_simp
      refine (unhide TD _ _ (unhide EN113a)).mono ?_
      rintro e u115a ⟨⟨v, rfl, T, rfl, hT, hTl, hTb⟩, j115a⟩
      obtain ⟨az, cz, kidz, rfl⟩ := num_form hT hTb
      have HT := hide hT
      clear hT hTl hTb
      dsimp only [VT.val]
      go_wp2_with fail
      refine hK0.out _ _ ?hS115a (fun hE1 => ?_)
      case hS115a => exact unhide SK _ (keep_call hE j115a)
      clear hK0 K0
      have o115ba := o113ba.below j115a
      have EN115a := hide ((unhide EN113a).below j115a)
      have CB115a := hide ((unhide CB113a).below j115a)
      have CA115a := hide ((unhide CA113a).below j115a)
      clear j115a
      clear hE o113ba EN113a CB113a CA113a
      have hE := hE1
      clear hE1
      try simp only [Act.put, List.setIfInBounds_toArray, List.set_cons_zero, List.set_cons_succ]
      refine takeA 14 (some 63) ?va14x115 ⟨_, rfl, rfl, rfl, ?ya14x115⟩ ?_
      case ya14x115 => intro w0 hS; go_simp; try (with_reducible rfl)
      simp only [Act.put, List.setIfInBounds_toArray, List.set_cons_zero, List.set_cons_succ]
      refine takeA 15 (some 78) ?va15x115 ⟨_, rfl, rfl, rfl, ?ya15x115⟩ ?_
      case ya15x115 => intro w0 hS; go_simp; try (with_reducible rfl)
      simp only [Act.put, List.setIfInBounds_toArray, List.set_cons_zero, List.set_cons_succ]
      refine takeA 16 (some 79) ?va16x115 ⟨_, rfl, rfl, rfl, ?ya16x115⟩ ?_
      case ya16x115 => intro w0 hS; go_simp; try (with_reducible rfl)
      simp only [Act.put, List.setIfInBounds_toArray, List.set_cons_zero, List.set_cons_succ]
      refine wpAnyH_ready (rs := [18]) (by kernel_rfl) (by simp) ?_
      refine AllReadyH.cons rfl (fun K0 hK0 => ?_) AllReadyH.nil
      obtain ⟨⟨-, e0, e1, e2, e3, e4, e5⟩, f0, f1, f2, f3, f4, f5⟩ := id o115ba
      simp only [Nat.zero_add] at e0 e1 e2 e3 e4 e5
      go_simp
      clear e0 e1 e2 e3 e4 e5 f0 f1 f2 f3 f4 f5
      refine hK0.out _ _ ?hS116a (fun hE1 => ?_)
      case hS116a => exact unhide SK _ (set6 hE.1 (by omega) _ _ _ _ _ _)
      clear hK0 K0
      have s116ba := Own.put o115ba 2 false R 0 ⟨#[]⟩ az 0 cz
      generalize ((((((u115a.setCell ⟨g113a, 0, none⟩ (.int .i64 2)).setCell ⟨g113a, 1, none⟩ (.bool false)).setCell ⟨g113a, 2, none⟩ (.int .i64 R)).setCell ⟨g113a, 3, none⟩ (.int .i64 0)).setCell ⟨g113a, 4, none⟩ (.string ⟨#[]⟩)).setCell ⟨g113a, 5, none⟩ (.slice az 0 cz)) = u116a at *
      clear hE o115ba EN115a CB115a CA115a
      have hE := hE1
      clear hE1
      try simp only [Act.put, List.setIfInBounds_toArray, List.set_cons_zero, List.set_cons_succ]
      refine takeA 19 (some 13) ?va19x116 ⟨_, rfl, rfl, rfl, ?ya19x116⟩ ?_
      case ya19x116 => intro w0 hS; go_simp; try (with_reducible rfl)
      simp only [Act.put, List.setIfInBounds_toArray, List.set_cons_zero, List.set_cons_succ]
      refine wpAnyH_done (by kernel_rfl) ?_ _
      refine NoPanic.normal ?_
      obtain ⟨y0, y1, y2, y3, y4, y5, y6⟩ := s116ba
      simp only [Nat.zero_add] at y1 y2 y3 y4 y5 y6
      have BZ := hE.1
      clear hE
      go_wp2_with fail
      go_meet
      exact ⟨_, _, _, _, rfl, rfl, ⟨y1, y2, y3, y4, y5, y6⟩, hide (in_leaf2 (unhide HT)), BZ⟩
    ·skip
     go_simp
     refine hK0.out _ _ ?hS117a (fun hE1 => ?_)
     case hS117a => exact unhide SK _ (keep_alloc hE _)
     clear hK0 K0
     have j117a := below1 u69a (Obj.cells #[.int .i64 0, .bool false, .int .i64 0, .int .i64 0, .string ⟨#[]⟩, .slice none 0 0] 32)
     have z117a : V.heap.size ≤ u69a.heap.size := hE.1.size
     have EN117a := hide ((unhide EN69a).below j117a)
     have CB117a := hide ((unhide CB69a).below j117a)
     have o117ba := Own.new u69a 32
     generalize u69a.alloc (Obj.cells #[.int .i64 0, .bool false, .int .i64 0, .int .i64 0, .string ⟨#[]⟩, .slice none 0 0] 32) = u117a at *
     generalize u69a.heap.size = g117a at *
     clear j117a
     clear hE EN69a CB69a
     have hE := hE1
     clear hE1
     try simp only [Act.put, List.setIfInBounds_toArray, List.set_cons_zero, List.set_cons_succ]
     refine wpAnyH_ready (rs := [0]) (by kernel_rfl) (by simp) ?_
     refine AllReadyH.cons rfl (fun K0 hK0 => ?_) AllReadyH.nil
     go_simp
     refine hK0.out _ _ ?hS118a (fun hE1 => ?_)
     case hS118a => exact unhide SK _ (keep_alloc hE _)
     clear hK0 K0
     have j118a := below1 u117a (Obj.cells #[.string ⟨#[43]⟩, .string ⟨#[45]⟩, .string ⟨#[42]⟩] 9)
     have z118a : V.heap.size ≤ u117a.heap.size := hE.1.size
     have o118ba := o117ba.below j118a
     have EN118a := hide ((unhide EN117a).below j118a)
     have CB118a := hide ((unhide CB117a).below j118a)
     have CA118a := hide (cellIs_mk (w := u117a.alloc (Obj.cells #[.string ⟨#[43]⟩, .string ⟨#[45]⟩, .string ⟨#[42]⟩] 9)) (g := u117a.heap.size) (o := p) (v := .string ⟨P.toArray⟩) (unhide HCP u117a))
     have ne118ba : g117a ≠ u117a.heap.size := Nat.ne_of_lt o117ba.1.1
     generalize u117a.alloc (Obj.cells #[.string ⟨#[43]⟩, .string ⟨#[45]⟩, .string ⟨#[42]⟩] 9) = u118a at *
     generalize u117a.heap.size = g118a at *
     clear j118a
     clear hE o117ba EN117a CB117a
     have hE := hE1
     clear hE1
     try simp only [Act.put, List.setIfInBounds_toArray, List.set_cons_zero, List.set_cons_succ]
     refine takeA 2 (some 66) ?va2x118 ⟨_, rfl, rfl, rfl, ?ya2x118⟩ ?_
     case ya2x118 => intro w0 hS; go_simp; try (with_reducible rfl)
     simp only [Act.put, List.setIfInBounds_toArray, List.set_cons_zero, List.set_cons_succ]
     refine wpAnyH_ready (rs := [3]) (by kernel_rfl) (by simp) ?_
     refine AllReadyH.cons rfl (fun K0 hK0 => ?_) AllReadyH.nil
     have hcl := (unhide CA118a : _ = _)
     go_simp
     clear hcl
     refine hK0.out _ _ ?hS119a (fun hE1 => ?_)
     case hS119a => exact hE
     clear hK0 K0 hE
     have hE := hE1
     clear hE1
     try simp only [Act.put, List.setIfInBounds_toArray, List.set_cons_zero, List.set_cons_succ]
     refine takeA 4 (some 68) ?va4x119 ⟨_, rfl, rfl, rfl, ?ya4x119⟩ ?_
     case ya4x119 => intro w0 hS; go_simp; (first | done | (with_reducible rfl) | (rw [if_neg (by omega)]; done) | skip)
     simp only [Act.put, List.setIfInBounds_toArray, List.set_cons_zero, List.set_cons_succ]
     refine takeA 5 (some 69) ?va5x119 ⟨_, rfl, rfl, rfl, ?ya5x119⟩ ?_
     case ya5x119 => intro w0 hS; go_simp; (first | done | (with_reducible rfl) | (rw [if_neg (by omega)]; done) | skip)
     simp only [Act.put, List.setIfInBounds_toArray, List.set_cons_zero, List.set_cons_succ]
     refine takeA 10 (some 74) ?va10x119 ⟨_, rfl, rfl, rfl, ?ya10x119⟩ ?_
     case ya10x119 => intro w0 hS; go_simp; (first | done | (with_reducible rfl) | (rw [if_neg (by omega)]; done) | skip)
     simp only [Act.put, List.setIfInBounds_toArray, List.set_cons_zero, List.set_cons_succ]
     refine takeA 11 (some 75) ?va11x119 ⟨_, rfl, rfl, rfl, ?ya11x119⟩ ?_
     case ya11x119 => intro w0 hS; go_simp; (first | done | (with_reducible rfl) | (rw [if_neg (by omega)]; done) | skip)
     simp only [Act.put, List.setIfInBounds_toArray, List.set_cons_zero, List.set_cons_succ]
     refine wpAnyH_ready (rs := [13]) (by kernel_rfl) (by simp) ?_
     refine AllReadyH.cons rfl (fun K0 hK0 => ?_) AllReadyH.nil
     go_simp
     refine (unhide TD _ _ (unhide EN118a)).mono ?_
     rintro e u120a ⟨⟨v, rfl, T, rfl, hT, hTl, hTb⟩, j120a⟩
     obtain ⟨az, cz, kidz, rfl⟩ := num_form hT hTb
     have HT := hide hT
     clear hT hTl hTb
     dsimp only [VT.val]
     go_wp2_with fail
     refine hK0.out _ _ ?hS120a (fun hE1 => ?_)
     case hS120a => exact unhide SK _ (keep_call hE j120a)
     clear hK0 K0
     have o120ba := o118ba.below j120a
     have EN120a := hide ((unhide EN118a).below j120a)
     have CB120a := hide ((unhide CB118a).below j120a)
     have CA120a := hide ((unhide CA118a).below j120a)
     clear j120a
     clear hE o118ba EN118a CB118a CA118a
     have hE := hE1
     clear hE1
     try simp only [Act.put, List.setIfInBounds_toArray, List.set_cons_zero, List.set_cons_succ]
     refine takeA 14 (some 63) ?va14x120 ⟨_, rfl, rfl, rfl, ?ya14x120⟩ ?_
     case ya14x120 => intro w0 hS; go_simp; try (with_reducible rfl)
     simp only [Act.put, List.setIfInBounds_toArray, List.set_cons_zero, List.set_cons_succ]
     refine takeA 15 (some 78) ?va15x120 ⟨_, rfl, rfl, rfl, ?ya15x120⟩ ?_
     case ya15x120 => intro w0 hS; go_simp; try (with_reducible rfl)
     simp only [Act.put, List.setIfInBounds_toArray, List.set_cons_zero, List.set_cons_succ]
     refine takeA 16 (some 79) ?va16x120 ⟨_, rfl, rfl, rfl, ?ya16x120⟩ ?_
     case ya16x120 => intro w0 hS; go_simp; try (with_reducible rfl)
     simp only [Act.put, List.setIfInBounds_toArray, List.set_cons_zero, List.set_cons_succ]
     refine wpAnyH_ready (rs := [18]) (by kernel_rfl) (by simp) ?_
     refine AllReadyH.cons rfl (fun K0 hK0 => ?_) AllReadyH.nil
     obtain ⟨⟨-, e0, e1, e2, e3, e4, e5⟩, f0, f1, f2, f3, f4, f5⟩ := id o120ba
     simp only [Nat.zero_add] at e0 e1 e2 e3 e4 e5
     go_simp
     clear e0 e1 e2 e3 e4 e5 f0 f1 f2 f3 f4 f5
     refine hK0.out _ _ ?hS121a (fun hE1 => ?_)
     case hS121a => exact unhide SK _ (set6 hE.1 (by omega) _ _ _ _ _ _)
     clear hK0 K0
     have s121ba := Own.put o120ba 2 false R 0 ⟨#[]⟩ az 0 cz
     generalize ((((((u120a.setCell ⟨g117a, 0, none⟩ (.int .i64 2)).setCell ⟨g117a, 1, none⟩ (.bool false)).setCell ⟨g117a, 2, none⟩ (.int .i64 R)).setCell ⟨g117a, 3, none⟩ (.int .i64 0)).setCell ⟨g117a, 4, none⟩ (.string ⟨#[]⟩)).setCell ⟨g117a, 5, none⟩ (.slice az 0 cz)) = u121a at *
     clear hE o120ba EN120a CB120a CA120a
     have hE := hE1
     clear hE1
     try simp only [Act.put, List.setIfInBounds_toArray, List.set_cons_zero, List.set_cons_succ]
     refine takeA 19 (some 13) ?va19x121 ⟨_, rfl, rfl, rfl, ?ya19x121⟩ ?_
     case ya19x121 => intro w0 hS; go_simp; try (with_reducible rfl)
     simp only [Act.put, List.setIfInBounds_toArray, List.set_cons_zero, List.set_cons_succ]
     refine wpAnyH_done (by kernel_rfl) ?_ _
     refine NoPanic.normal ?_
     obtain ⟨y0, y1, y2, y3, y4, y5, y6⟩ := s121ba
     simp only [Nat.zero_add] at y1 y2 y3 y4 y5 y6
     have BZ := hE.1
     clear hE
     go_wp2_with fail
     go_meet
     exact ⟨_, _, _, _, rfl, rfl, ⟨y1, y2, y3, y4, y5, y6⟩, hide (in_leaf2 (unhide HT)), BZ⟩
   ·skip
    go_simp
    refine hK0.out _ _ ?hS122a (fun hE1 => ?_)
    case hS122a => exact unhide SK _ (keep_alloc hE _)
    clear hK0 K0
    have j122a := below1 u69a (Obj.cells #[.int .i64 0, .bool false, .int .i64 0, .int .i64 0, .string ⟨#[]⟩, .slice none 0 0] 32)
    have z122a : V.heap.size ≤ u69a.heap.size := hE.1.size
    have EN122a := hide ((unhide EN69a).below j122a)
    have CB122a := hide ((unhide CB69a).below j122a)
    have o122ba := Own.new u69a 32
    generalize u69a.alloc (Obj.cells #[.int .i64 0, .bool false, .int .i64 0, .int .i64 0, .string ⟨#[]⟩, .slice none 0 0] 32) = u122a at *
    generalize u69a.heap.size = g122a at *
    clear j122a
    clear hE EN69a CB69a
    have hE := hE1
    clear hE1
    try simp only [Act.put, List.setIfInBounds_toArray, List.set_cons_zero, List.set_cons_succ]
    refine wpAnyH_ready (rs := [0, 9]) (by kernel_rfl) (by simp) ?_
    refine AllReadyH.cons rfl (fun K0 hK0 => ?_) (AllReadyH.cons rfl (fun K0 hK0 => ?_) AllReadyH.nil)
    ·skip
     go_simp
     refine hK0.out _ _ ?hS123a (fun hE1 => ?_)
     case hS123a => exact unhide SK _ (keep_alloc hE _)
     clear hK0 K0
     have j123a := below1 u122a (Obj.cells #[.string ⟨#[43]⟩, .string ⟨#[45]⟩, .string ⟨#[42]⟩] 9)
     have z123a : V.heap.size ≤ u122a.heap.size := hE.1.size
     have o123ba := o122ba.below j123a
     have EN123a := hide ((unhide EN122a).below j123a)
     have CB123a := hide ((unhide CB122a).below j123a)
     have CA123a := hide (cellIs_mk (w := u122a.alloc (Obj.cells #[.string ⟨#[43]⟩, .string ⟨#[45]⟩, .string ⟨#[42]⟩] 9)) (g := u122a.heap.size) (o := p) (v := .string ⟨P.toArray⟩) (unhide HCP u122a))
     have ne123ba : g122a ≠ u122a.heap.size := Nat.ne_of_lt o122ba.1.1
     generalize u122a.alloc (Obj.cells #[.string ⟨#[43]⟩, .string ⟨#[45]⟩, .string ⟨#[42]⟩] 9) = u123a at *
     generalize u122a.heap.size = g123a at *
     clear j123a
     clear hE o122ba EN122a CB122a
     have hE := hE1
     clear hE1
     try simp only [Act.put, List.setIfInBounds_toArray, List.set_cons_zero, List.set_cons_succ]
     refine takeA 2 (some 66) ?va2x123 ⟨_, rfl, rfl, rfl, ?ya2x123⟩ ?_
     case ya2x123 => intro w0 hS; go_simp; try (with_reducible rfl)
     simp only [Act.put, List.setIfInBounds_toArray, List.set_cons_zero, List.set_cons_succ]
     refine wpAnyH_ready (rs := [3, 9]) (by kernel_rfl) (by simp) ?_
     refine AllReadyH.cons rfl (fun K0 hK0 => ?_) (AllReadyH.cons rfl (fun K0 hK0 => ?_) AllReadyH.nil)
     ·skip
      have hcl := (unhide CA123a : _ = _)
      go_simp
      clear hcl
      refine hK0.out _ _ ?hS124a (fun hE1 => ?_)
      case hS124a => exact hE
      clear hK0 K0 hE
      have hE := hE1
      clear hE1
      try simp only [Act.put, List.setIfInBounds_toArray, List.set_cons_zero, List.set_cons_succ]
      refine takeA 4 (some 68) ?va4x124 ⟨_, rfl, rfl, rfl, ?ya4x124⟩ ?_
      case ya4x124 => intro w0 hS; go_simp; (first | done | (with_reducible rfl) | (rw [if_neg (by omega)]; done) | skip)
      simp only [Act.put, List.setIfInBounds_toArray, List.set_cons_zero, List.set_cons_succ]
      refine takeA 5 (some 69) ?va5x124 ⟨_, rfl, rfl, rfl, ?ya5x124⟩ ?_
      case ya5x124 => intro w0 hS; go_simp; (first | done | (with_reducible rfl) | (rw [if_neg (by omega)]; done) | skip)
      simp only [Act.put, List.setIfInBounds_toArray, List.set_cons_zero, List.set_cons_succ]
      refine wpAnyH_ready (rs := [9]) (by kernel_rfl) (by simp) ?_
      refine AllReadyH.cons rfl (fun K0 hK0 => ?_) AllReadyH.nil
      have hcl := (unhide CB123a : _ = _)
      go_simp
      clear hcl
      refine hK0.out _ _ ?hS125a (fun hE1 => ?_)
      case hS125a => exact hE
      clear hK0 K0 hE
      have hE := hE1
      clear hE1
      try simp only [Act.put, List.setIfInBounds_toArray, List.set_cons_zero, List.set_cons_succ]
      refine takeA 10 (some 74) ?va10x125 ⟨_, rfl, rfl, rfl, ?ya10x125⟩ ?_
      case ya10x125 => intro w0 hS; go_simp; (first | done | (with_reducible rfl) | (rw [if_neg (by omega)]; done) | skip)
      simp only [Act.put, List.setIfInBounds_toArray, List.set_cons_zero, List.set_cons_succ]
      refine takeA 11 (some 75) ?va11x125 ⟨_, rfl, rfl, rfl, ?ya11x125⟩ ?_
      case ya11x125 => intro w0 hS; go_simp; (first | done | (with_reducible rfl) | (rw [if_neg (by omega)]; done) | skip)
      simp only [Act.put, List.setIfInBounds_toArray, List.set_cons_zero, List.set_cons_succ]
      refine wpAnyH_ready (rs := [13]) (by kernel_rfl) (by simp) ?_
      refine AllReadyH.cons rfl (fun K0 hK0 => ?_) AllReadyH.nil
      go_simp
      refine (unhide TD _ _ (unhide EN123a)).mono ?_
      rintro e u126a ⟨⟨v, rfl, T, rfl, hT, hTl, hTb⟩, j126a⟩
      obtain ⟨az, cz, kidz, rfl⟩ := num_form hT hTb
      have HT := hide hT
      clear hT hTl hTb
      dsimp only [VT.val]
      go_wp2_with fail
      refine hK0.out _ _ ?hS126a (fun hE1 => ?_)
      case hS126a => exact unhide SK _ (keep_call hE j126a)
      clear hK0 K0
      have o126ba := o123ba.below j126a
      have EN126a := hide ((unhide EN123a).below j126a)
      have CB126a := hide ((unhide CB123a).below j126a)
      have CA126a := hide ((unhide CA123a).below j126a)
      clear j126a
      clear hE o123ba EN123a CB123a CA123a
      have hE := hE1
      clear hE1
      try simp only [Act.put, List.setIfInBounds_toArray, List.set_cons_zero, List.set_cons_succ]
      refine takeA 14 (some 63) ?va14x126 ⟨_, rfl, rfl, rfl, ?ya14x126⟩ ?_
      case ya14x126 => intro w0 hS; go_simp; try (with_reducible rfl)
      simp only [Act.put, List.setIfInBounds_toArray, List.set_cons_zero, List.set_cons_succ]
      refine takeA 15 (some 78) ?va15x126 ⟨_, rfl, rfl, rfl, ?ya15x126⟩ ?_
      case ya15x126 => intro w0 hS; go_simp; try (with_reducible rfl)
      simp only [Act.put, List.setIfInBounds_toArray, List.set_cons_zero, List.set_cons_succ]
      refine takeA 16 (some 79) ?va16x126 ⟨_, rfl, rfl, rfl, ?ya16x126⟩ ?_
      case ya16x126 => intro w0 hS; go_simp; try (with_reducible rfl)
      simp only [Act.put, List.setIfInBounds_toArray, List.set_cons_zero, List.set_cons_succ]
      refine wpAnyH_ready (rs := [18]) (by kernel_rfl) (by simp) ?_
      refine AllReadyH.cons rfl (fun K0 hK0 => ?_) AllReadyH.nil
      obtain ⟨⟨-, e0, e1, e2, e3, e4, e5⟩, f0, f1, f2, f3, f4, f5⟩ := id o126ba
      simp only [Nat.zero_add] at e0 e1 e2 e3 e4 e5
      go_simp
      clear e0 e1 e2 e3 e4 e5 f0 f1 f2 f3 f4 f5
      refine hK0.out _ _ ?hS127a (fun hE1 => ?_)
      case hS127a => exact unhide SK _ (set6 hE.1 (by omega) _ _ _ _ _ _)
      clear hK0 K0
      have s127ba := Own.put o126ba 2 false R 0 ⟨#[]⟩ az 0 cz
      generalize ((((((u126a.setCell ⟨g122a, 0, none⟩ (.int .i64 2)).setCell ⟨g122a, 1, none⟩ (.bool false)).setCell ⟨g122a, 2, none⟩ (.int .i64 R)).setCell ⟨g122a, 3, none⟩ (.int .i64 0)).setCell ⟨g122a, 4, none⟩ (.string ⟨#[]⟩)).setCell ⟨g122a, 5, none⟩ (.slice az 0 cz)) = u127a at *
      clear hE o126ba EN126a CB126a CA126a
      have hE := hE1
      clear hE1
      try simp only [Act.put, List.setIfInBounds_toArray, List.set_cons_zero, List.set_cons_succ]
      refine takeA 19 (some 13) ?va19x127 ⟨_, rfl, rfl, rfl, ?ya19x127⟩ ?_
      case ya19x127 => intro w0 hS; go_simp; try (with_reducible rfl)
      simp only [Act.put, List.setIfInBounds_toArray, List.set_cons_zero, List.set_cons_succ]
      refine wpAnyH_done (by kernel_rfl) ?_ _
      refine NoPanic.normal ?_
      obtain ⟨y0, y1, y2, y3, y4, y5, y6⟩ := s127ba
      simp only [Nat.zero_add] at y1 y2 y3 y4 y5 y6
      have BZ := hE.1
      clear hE
      go_wp2_with fail
      go_meet
      exact ⟨_, _, _, _, rfl, rfl, ⟨y1, y2, y3, y4, y5, y6⟩, hide (in_leaf2 (unhide HT)), BZ⟩
     ·skip
      have hcl := (unhide CB123a : _ = _)
      go_simp
      clear hcl
      refine hK0.out _ _ ?hS128a (fun hE1 => ?_)
      case hS128a => exact hE
      clear hK0 K0 hE
      have hE := hE1
      clear hE1
      try simp only [Act.put, List.setIfInBounds_toArray, List.set_cons_zero, List.set_cons_succ]
      refine wpAnyH_ready (rs := [3]) (by kernel_rfl) (by simp) ?_
      refine AllReadyH.cons rfl (fun K0 hK0 => ?_) AllReadyH.nil
      have hcl := (unhide CA123a : _ = _)
      go_simp
      clear hcl
      refine hK0.out _ _ ?hS129a (fun hE1 => ?_)
      case hS129a => exact hE
      clear hK0 K0 hE
      have hE := hE1
      clear hE1
      try simp only [Act.put, List.setIfInBounds_toArray, List.set_cons_zero, List.set_cons_succ]
      refine takeA 4 (some 68) ?va4x129 ⟨_, rfl, rfl, rfl, ?ya4x129⟩ ?_
      case ya4x129 => intro w0 hS; go_simp; (first | done | (with_reducible rfl) | (rw [if_neg (by omega)]; done) | skip)
      simp only [Act.put, List.setIfInBounds_toArray, List.set_cons_zero, List.set_cons_succ]
      refine takeA 5 (some 69) ?va5x129 ⟨_, rfl, rfl, rfl, ?ya5x129⟩ ?_
      case ya5x129 => intro w0 hS; go_simp; (first | done | (with_reducible rfl) | (rw [if_neg (by omega)]; done) | skip)
      simp only [Act.put, List.setIfInBounds_toArray, List.set_cons_zero, List.set_cons_succ]
      refine takeA 10 (some 74) ?va10x129 ⟨_, rfl, rfl, rfl, ?ya10x129⟩ ?_
      case ya10x129 => intro w0 hS; go_simp; (first | done | (with_reducible rfl) | (rw [if_neg (by omega)]; done) | skip)
      simp only [Act.put, List.setIfInBounds_toArray, List.set_cons_zero, List.set_cons_succ]
      refine takeA 11 (some 75) ?va11x129 ⟨_, rfl, rfl, rfl, ?ya11x129⟩ ?_
      case ya11x129 => intro w0 hS; go_simp; (first | done | (with_reducible rfl) | (rw [if_neg (by omega)]; done) | skip)
      simp only [Act.put, List.setIfInBounds_toArray, List.set_cons_zero, List.set_cons_succ]
      refine wpAnyH_ready (rs := [13]) (by kernel_rfl) (by simp) ?_
      refine AllReadyH.cons rfl (fun K0 hK0 => ?_) AllReadyH.nil
      go_simp
      refine (unhide TD _ _ (unhide EN123a)).mono ?_
      rintro e u130a ⟨⟨v, rfl, T, rfl, hT, hTl, hTb⟩, j130a⟩
      obtain ⟨az, cz, kidz, rfl⟩ := num_form hT hTb
      have HT := hide hT
      clear hT hTl hTb
      dsimp only [VT.val]
      go_wp2_with fail
      refine hK0.out _ _ ?hS130a (fun hE1 => ?_)
      case hS130a => exact unhide SK _ (keep_call hE j130a)
      clear hK0 K0
      have o130ba := o123ba.below j130a
      have EN130a := hide ((unhide EN123a).below j130a)
      have CB130a := hide ((unhide CB123a).below j130a)
      have CA130a := hide ((unhide CA123a).below j130a)
      clear j130a
      clear hE o123ba EN123a CB123a CA123a
      have hE := hE1
      clear hE1
      try simp only [Act.put, List.setIfInBounds_toArray, List.set_cons_zero, List.set_cons_succ]
      refine takeA 14 (some 63) ?va14x130 ⟨_, rfl, rfl, rfl, ?ya14x130⟩ ?_
      case ya14x130 => intro w0 hS; go_simp; try (with_reducible rfl)
      simp only [Act.put, List.setIfInBounds_toArray, List.set_cons_zero, List.set_cons_succ]
      refine takeA 15 (some 78) ?va15x130 ⟨_, rfl, rfl, rfl, ?ya15x130⟩ ?_
      case ya15x130 => intro w0 hS; go_simp; try (with_reducible rfl)
      simp only [Act.put, List.setIfInBounds_toArray, List.set_cons_zero, List.set_cons_succ]
      refine takeA 16 (some 79) ?va16x130 ⟨_, rfl, rfl, rfl, ?ya16x130⟩ ?_
      case ya16x130 => intro w0 hS; go_simp; try (with_reducible rfl)
      simp only [Act.put, List.setIfInBounds_toArray, List.set_cons_zero, List.set_cons_succ]
      refine wpAnyH_ready (rs := [18]) (by kernel_rfl) (by simp) ?_
      refine AllReadyH.cons rfl (fun K0 hK0 => ?_) AllReadyH.nil
      obtain ⟨⟨-, e0, e1, e2, e3, e4, e5⟩, f0, f1, f2, f3, f4, f5⟩ := id o130ba
      simp only [Nat.zero_add] at e0 e1 e2 e3 e4 e5
      go_simp
      clear e0 e1 e2 e3 e4 e5 f0 f1 f2 f3 f4 f5
      refine hK0.out _ _ ?hS131a (fun hE1 => ?_)
      case hS131a => exact unhide SK _ (set6 hE.1 (by omega) _ _ _ _ _ _)
      clear hK0 K0
      have s131ba := Own.put o130ba 2 false R 0 ⟨#[]⟩ az 0 cz
      generalize ((((((u130a.setCell ⟨g122a, 0, none⟩ (.int .i64 2)).setCell ⟨g122a, 1, none⟩ (.bool false)).setCell ⟨g122a, 2, none⟩ (.int .i64 R)).setCell ⟨g122a, 3, none⟩ (.int .i64 0)).setCell ⟨g122a, 4, none⟩ (.string ⟨#[]⟩)).setCell ⟨g122a, 5, none⟩ (.slice az 0 cz)) = u131a at *
      clear hE o130ba EN130a CB130a CA130a
      have hE := hE1
      clear hE1
      try simp only [Act.put, List.setIfInBounds_toArray, List.set_cons_zero, List.set_cons_succ]
      refine takeA 19 (some 13) ?va19x131 ⟨_, rfl, rfl, rfl, ?ya19x131⟩ ?_
      case ya19x131 => intro w0 hS; go_simp; try (with_reducible rfl)
      simp only [Act.put, List.setIfInBounds_toArray, List.set_cons_zero, List.set_cons_succ]
      refine wpAnyH_done (by kernel_rfl) ?_ _
      refine NoPanic.normal ?_
      obtain ⟨y0, y1, y2, y3, y4, y5, y6⟩ := s131ba
      simp only [Nat.zero_add] at y1 y2 y3 y4 y5 y6
      have BZ := hE.1
      clear hE
      go_wp2_with fail
      go_meet
      exact ⟨_, _, _, _, rfl, rfl, ⟨y1, y2, y3, y4, y5, y6⟩, hide (in_leaf2 (unhide HT)), BZ⟩
    ·skip
     have hcl := (unhide CB122a : _ = _)
     go_simp
     clear hcl
     refine hK0.out _ _ ?hS132a (fun hE1 => ?_)
     case hS132a => exact hE
     clear hK0 K0 hE
     have hE := hE1
     clear hE1
     try simp only [Act.put, List.setIfInBounds_toArray, List.set_cons_zero, List.set_cons_succ]
     refine wpAnyH_ready (rs := [0]) (by kernel_rfl) (by simp) ?_
     refine AllReadyH.cons rfl (fun K0 hK0 => ?_) AllReadyH.nil
     go_simp
     refine hK0.out _ _ ?hS133a (fun hE1 => ?_)
     case hS133a => exact unhide SK _ (keep_alloc hE _)
     clear hK0 K0
     have j133a := below1 u122a (Obj.cells #[.string ⟨#[43]⟩, .string ⟨#[45]⟩, .string ⟨#[42]⟩] 9)
     have z133a : V.heap.size ≤ u122a.heap.size := hE.1.size
     have o133ba := o122ba.below j133a
     have EN133a := hide ((unhide EN122a).below j133a)
     have CB133a := hide ((unhide CB122a).below j133a)
     have CA133a := hide (cellIs_mk (w := u122a.alloc (Obj.cells #[.string ⟨#[43]⟩, .string ⟨#[45]⟩, .string ⟨#[42]⟩] 9)) (g := u122a.heap.size) (o := p) (v := .string ⟨P.toArray⟩) (unhide HCP u122a))
     have ne133ba : g122a ≠ u122a.heap.size := Nat.ne_of_lt o122ba.1.1
     generalize u122a.alloc (Obj.cells #[.string ⟨#[43]⟩, .string ⟨#[45]⟩, .string ⟨#[42]⟩] 9) = u133a at *
     generalize u122a.heap.size = g133a at *
     clear j133a
     clear hE o122ba EN122a CB122a
     have hE := hE1
     clear hE1
     try simp only [Act.put, List.setIfInBounds_toArray, List.set_cons_zero, List.set_cons_succ]
     refine takeA 2 (some 66) ?va2x133 ⟨_, rfl, rfl, rfl, ?ya2x133⟩ ?_
     case ya2x133 => intro w0 hS; go_simp; try (with_reducible rfl)
     simp only [Act.put, List.setIfInBounds_toArray, List.set_cons_zero, List.set_cons_succ]
     refine wpAnyH_ready (rs := [3]) (by kernel_rfl) (by simp) ?_
     refine AllReadyH.cons rfl (fun K0 hK0 => ?_) AllReadyH.nil
     have hcl := (unhide CA133a : _ = _)
     go_simp
     clear hcl
     refine hK0.out _ _ ?hS134a (fun hE1 => ?_)
     case hS134a => exact hE
     clear hK0 K0 hE
     have hE := hE1
     clear hE1
     try simp only [Act.put, List.setIfInBounds_toArray, List.set_cons_zero, List.set_cons_succ]
     refine takeA 4 (some 68) ?va4x134 ⟨_, rfl, rfl, rfl, ?ya4x134⟩ ?_
     case ya4x134 => intro w0 hS; go_simp; (first | done | (with_reducible rfl) | (rw [if_neg (by omega)]; done) | skip)
     simp only [Act.put, List.setIfInBounds_toArray, List.set_cons_zero, List.set_cons_succ]
     refine takeA 5 (some 69) ?va5x134 ⟨_, rfl, rfl, rfl, ?ya5x134⟩ ?_
     case ya5x134 => intro w0 hS; go_simp; (first | done | (with_reducible rfl) | (rw [if_neg (by omega)]; done) | skip)
     simp only [Act.put, List.setIfInBounds_toArray, List.set_cons_zero, List.set_cons_succ]
     refine takeA 10 (some 74) ?va10x134 ⟨_, rfl, rfl, rfl, ?ya10x134⟩ ?_
     case ya10x134 => intro w0 hS; go_simp; (first | done | (with_reducible rfl) | (rw [if_neg (by omega)]; done) | skip)
     simp only [Act.put, List.setIfInBounds_toArray, List.set_cons_zero, List.set_cons_succ]
     refine takeA 11 (some 75) ?va11x134 ⟨_, rfl, rfl, rfl, ?ya11x134⟩ ?_
     case ya11x134 => intro w0 hS; go_simp; (first | done | (with_reducible rfl) | (rw [if_neg (by omega)]; done) | skip)
     simp only [Act.put, List.setIfInBounds_toArray, List.set_cons_zero, List.set_cons_succ]
     refine wpAnyH_ready (rs := [13]) (by kernel_rfl) (by simp) ?_
     refine AllReadyH.cons rfl (fun K0 hK0 => ?_) AllReadyH.nil
     go_simp
     refine (unhide TD _ _ (unhide EN133a)).mono ?_
     rintro e u135a ⟨⟨v, rfl, T, rfl, hT, hTl, hTb⟩, j135a⟩
     obtain ⟨az, cz, kidz, rfl⟩ := num_form hT hTb
     have HT := hide hT
     clear hT hTl hTb
     dsimp only [VT.val]
     go_wp2_with fail
     refine hK0.out _ _ ?hS135a (fun hE1 => ?_)
     case hS135a => exact unhide SK _ (keep_call hE j135a)
     clear hK0 K0
     have o135ba := o133ba.below j135a
     have EN135a := hide ((unhide EN133a).below j135a)
     have CB135a := hide ((unhide CB133a).below j135a)
     have CA135a := hide ((unhide CA133a).below j135a)
     clear j135a
     clear hE o133ba EN133a CB133a CA133a
     have hE := hE1
     clear hE1
     try simp only [Act.put, List.setIfInBounds_toArray, List.set_cons_zero, List.set_cons_succ]
     refine takeA 14 (some 63) ?va14x135 ⟨_, rfl, rfl, rfl, ?ya14x135⟩ ?_
     case ya14x135 => intro w0 hS; go_simp; try (with_reducible rfl)
     simp only [Act.put, List.setIfInBounds_toArray, List.set_cons_zero, List.set_cons_succ]
     refine takeA 15 (some 78) ?va15x135 ⟨_, rfl, rfl, rfl, ?ya15x135⟩ ?_
     case ya15x135 => intro w0 hS; go_simp; try (with_reducible rfl)
     simp only [Act.put, List.setIfInBounds_toArray, List.set_cons_zero, List.set_cons_succ]
     refine takeA 16 (some 79) ?va16x135 ⟨_, rfl, rfl, rfl, ?ya16x135⟩ ?_
     case ya16x135 => intro w0 hS; go_simp; try (with_reducible rfl)
     simp only [Act.put, List.setIfInBounds_toArray, List.set_cons_zero, List.set_cons_succ]
     refine wpAnyH_ready (rs := [18]) (by kernel_rfl) (by simp) ?_
     refine AllReadyH.cons rfl (fun K0 hK0 => ?_) AllReadyH.nil
     obtain ⟨⟨-, e0, e1, e2, e3, e4, e5⟩, f0, f1, f2, f3, f4, f5⟩ := id o135ba
     simp only [Nat.zero_add] at e0 e1 e2 e3 e4 e5
     go_simp
     clear e0 e1 e2 e3 e4 e5 f0 f1 f2 f3 f4 f5
     refine hK0.out _ _ ?hS136a (fun hE1 => ?_)
     case hS136a => exact unhide SK _ (set6 hE.1 (by omega) _ _ _ _ _ _)
     clear hK0 K0
     have s136ba := Own.put o135ba 2 false R 0 ⟨#[]⟩ az 0 cz
     generalize ((((((u135a.setCell ⟨g122a, 0, none⟩ (.int .i64 2)).setCell ⟨g122a, 1, none⟩ (.bool false)).setCell ⟨g122a, 2, none⟩ (.int .i64 R)).setCell ⟨g122a, 3, none⟩ (.int .i64 0)).setCell ⟨g122a, 4, none⟩ (.string ⟨#[]⟩)).setCell ⟨g122a, 5, none⟩ (.slice az 0 cz)) = u136a at *
     clear hE o135ba EN135a CB135a CA135a
     have hE := hE1
     clear hE1
     try simp only [Act.put, List.setIfInBounds_toArray, List.set_cons_zero, List.set_cons_succ]
     refine takeA 19 (some 13) ?va19x136 ⟨_, rfl, rfl, rfl, ?ya19x136⟩ ?_
     case ya19x136 => intro w0 hS; go_simp; try (with_reducible rfl)
     simp only [Act.put, List.setIfInBounds_toArray, List.set_cons_zero, List.set_cons_succ]
     refine wpAnyH_done (by kernel_rfl) ?_ _
     refine NoPanic.normal ?_
     obtain ⟨y0, y1, y2, y3, y4, y5, y6⟩ := s136ba
     simp only [Nat.zero_add] at y1 y2 y3 y4 y5 y6
     have BZ := hE.1
     clear hE
     go_wp2_with fail
     go_meet
     exact ⟨_, _, _, _, rfl, rfl, ⟨y1, y2, y3, y4, y5, y6⟩, hide (in_leaf2 (unhide HT)), BZ⟩
  ·skip
   go_simp
   refine hK0.out _ _ ?hS137a (fun hE1 => ?_)
   case hS137a => exact unhide SK _ (keep_alloc hE _)
   clear hK0 K0
   have j137a := below1 u0a (Obj.cells #[.int .i64 0, .bool false, .int .i64 0, .int .i64 0, .string ⟨#[]⟩, .slice none 0 0] 32)
   have z137a : V.heap.size ≤ u0a.heap.size := hE.1.size
   have EN137a := hide ((unhide EN0a).below j137a)
   have o137ba := Own.new u0a 32
   generalize u0a.alloc (Obj.cells #[.int .i64 0, .bool false, .int .i64 0, .int .i64 0, .string ⟨#[]⟩, .slice none 0 0] 32) = u137a at *
   generalize u0a.heap.size = g137a at *
   clear j137a
   clear hE EN0a
   have hE := hE1
   clear hE1
   try simp only [Act.put, List.setIfInBounds_toArray, List.set_cons_zero, List.set_cons_succ]
   refine wpAnyH_ready (rs := [0, 6]) (by kernel_rfl) (by simp) ?_
   refine AllReadyH.cons rfl (fun K0 hK0 => ?_) (AllReadyH.cons rfl (fun K0 hK0 => ?_) AllReadyH.nil)
   ·skip
    go_simp
    refine hK0.out _ _ ?hS138a (fun hE1 => ?_)
    case hS138a => exact unhide SK _ (keep_alloc hE _)
    clear hK0 K0
    have j138a := below1 u137a (Obj.cells #[.string ⟨#[43]⟩, .string ⟨#[45]⟩, .string ⟨#[42]⟩] 9)
    have z138a : V.heap.size ≤ u137a.heap.size := hE.1.size
    have o138ba := o137ba.below j138a
    have EN138a := hide ((unhide EN137a).below j138a)
    have CA138a := hide (cellIs_mk (w := u137a.alloc (Obj.cells #[.string ⟨#[43]⟩, .string ⟨#[45]⟩, .string ⟨#[42]⟩] 9)) (g := u137a.heap.size) (o := p) (v := .string ⟨P.toArray⟩) (unhide HCP u137a))
    have ne138ba : g137a ≠ u137a.heap.size := Nat.ne_of_lt o137ba.1.1
    generalize u137a.alloc (Obj.cells #[.string ⟨#[43]⟩, .string ⟨#[45]⟩, .string ⟨#[42]⟩] 9) = u138a at *
    generalize u137a.heap.size = g138a at *
    clear j138a
    clear hE o137ba EN137a
    have hE := hE1
    clear hE1
    try simp only [Act.put, List.setIfInBounds_toArray, List.set_cons_zero, List.set_cons_succ]
    refine takeA 2 (some 66) ?va2x138 ⟨_, rfl, rfl, rfl, ?ya2x138⟩ ?_
    case ya2x138 => intro w0 hS; go_simp; try (with_reducible rfl)
    simp only [Act.put, List.setIfInBounds_toArray, List.set_cons_zero, List.set_cons_succ]
    refine wpAnyH_ready (rs := [3, 6]) (by kernel_rfl) (by simp) ?_
    refine AllReadyH.cons rfl (fun K0 hK0 => ?_) (AllReadyH.cons rfl (fun K0 hK0 => ?_) AllReadyH.nil)
    ·skip
     have hcl := (unhide CA138a : _ = _)
     go_simp
     clear hcl
     refine hK0.out _ _ ?hS139a (fun hE1 => ?_)
     case hS139a => exact hE
     clear hK0 K0 hE
     have hE := hE1
     clear hE1
     try simp only [Act.put, List.setIfInBounds_toArray, List.set_cons_zero, List.set_cons_succ]
     refine takeA 4 (some 68) ?va4x139 ⟨_, rfl, rfl, rfl, ?ya4x139⟩ ?_
     case ya4x139 => intro w0 hS; go_simp; (first | done | (with_reducible rfl) | (rw [if_neg (by omega)]; done) | skip)
     simp only [Act.put, List.setIfInBounds_toArray, List.set_cons_zero, List.set_cons_succ]
     refine takeA 5 (some 69) ?va5x139 ⟨_, rfl, rfl, rfl, ?ya5x139⟩ ?_
     case ya5x139 => intro w0 hS; go_simp; (first | done | (with_reducible rfl) | (rw [if_neg (by omega)]; done) | skip)
     simp only [Act.put, List.setIfInBounds_toArray, List.set_cons_zero, List.set_cons_succ]
     refine wpAnyH_ready (rs := [6]) (by kernel_rfl) (by simp) ?_
     refine AllReadyH.cons rfl (fun K0 hK0 => ?_) AllReadyH.nil
     go_simp
     refine hK0.out _ _ ?hS140a (fun hE1 => ?_)
     case hS140a => exact unhide SK _ (keep_alloc hE _)
     clear hK0 K0
     have j140a := below1 u138a (Obj.cells #[.string ⟨#[43]⟩, .string ⟨#[45]⟩, .string ⟨#[42]⟩] 9)
     have z140a : V.heap.size ≤ u138a.heap.size := hE.1.size
     have o140ba := o138ba.below j140a
     have EN140a := hide ((unhide EN138a).below j140a)
     have CA140a := hide ((unhide CA138a).below j140a)
     have CB140a := hide (cellIs_mk (w := u138a.alloc (Obj.cells #[.string ⟨#[43]⟩, .string ⟨#[45]⟩, .string ⟨#[42]⟩] 9)) (g := u138a.heap.size) (o := q) (v := .string ⟨Q.toArray⟩) (unhide HCQ u138a))
     have ne140ba : g137a ≠ u138a.heap.size := Nat.ne_of_lt o138ba.1.1
     generalize u138a.alloc (Obj.cells #[.string ⟨#[43]⟩, .string ⟨#[45]⟩, .string ⟨#[42]⟩] 9) = u140a at *
     generalize u138a.heap.size = g140a at *
     clear j140a
     clear hE o138ba EN138a CA138a
     have hE := hE1
     clear hE1
     try simp only [Act.put, List.setIfInBounds_toArray, List.set_cons_zero, List.set_cons_succ]
     refine takeA 8 (some 72) ?va8x140 ⟨_, rfl, rfl, rfl, ?ya8x140⟩ ?_
     case ya8x140 => intro w0 hS; go_simp; try (with_reducible rfl)
     simp only [Act.put, List.setIfInBounds_toArray, List.set_cons_zero, List.set_cons_succ]
     refine wpAnyH_ready (rs := [9]) (by kernel_rfl) (by simp) ?_
     refine AllReadyH.cons rfl (fun K0 hK0 => ?_) AllReadyH.nil
     have hcl := (unhide CB140a : _ = _)
     go_simp
     clear hcl
     refine hK0.out _ _ ?hS141a (fun hE1 => ?_)
     case hS141a => exact hE
     clear hK0 K0 hE
     have hE := hE1
     clear hE1
     try simp only [Act.put, List.setIfInBounds_toArray, List.set_cons_zero, List.set_cons_succ]
     refine takeA 10 (some 74) ?va10x141 ⟨_, rfl, rfl, rfl, ?ya10x141⟩ ?_
     case ya10x141 => intro w0 hS; go_simp; (first | done | (with_reducible rfl) | (rw [if_neg (by omega)]; done) | skip)
     simp only [Act.put, List.setIfInBounds_toArray, List.set_cons_zero, List.set_cons_succ]
     refine takeA 11 (some 75) ?va11x141 ⟨_, rfl, rfl, rfl, ?ya11x141⟩ ?_
     case ya11x141 => intro w0 hS; go_simp; (first | done | (with_reducible rfl) | (rw [if_neg (by omega)]; done) | skip)
     simp only [Act.put, List.setIfInBounds_toArray, List.set_cons_zero, List.set_cons_succ]
     refine wpAnyH_ready (rs := [13]) (by kernel_rfl) (by simp) ?_
     refine AllReadyH.cons rfl (fun K0 hK0 => ?_) AllReadyH.nil
     go_simp
     refine (unhide TD _ _ (unhide EN140a)).mono ?_
     rintro e u142a ⟨⟨v, rfl, T, rfl, hT, hTl, hTb⟩, j142a⟩
     obtain ⟨az, cz, kidz, rfl⟩ := num_form hT hTb
     have HT := hide hT
     clear hT hTl hTb
     dsimp only [VT.val]
     go_wp2_with fail
     refine hK0.out _ _ ?hS142a (fun hE1 => ?_)
     case hS142a => exact unhide SK _ (keep_call hE j142a)
     clear hK0 K0
     have o142ba := o140ba.below j142a
     have EN142a := hide ((unhide EN140a).below j142a)
     have CA142a := hide ((unhide CA140a).below j142a)
     have CB142a := hide ((unhide CB140a).below j142a)
     clear j142a
     clear hE o140ba EN140a CA140a CB140a
     have hE := hE1
     clear hE1
     try simp only [Act.put, List.setIfInBounds_toArray, List.set_cons_zero, List.set_cons_succ]
     refine takeA 14 (some 63) ?va14x142 ⟨_, rfl, rfl, rfl, ?ya14x142⟩ ?_
     case ya14x142 => intro w0 hS; go_simp; try (with_reducible rfl)
     simp only [Act.put, List.setIfInBounds_toArray, List.set_cons_zero, List.set_cons_succ]
     refine takeA 15 (some 78) ?va15x142 ⟨_, rfl, rfl, rfl, ?ya15x142⟩ ?_
     case ya15x142 => intro w0 hS; go_simp; try (with_reducible rfl)
     simp only [Act.put, List.setIfInBounds_toArray, List.set_cons_zero, List.set_cons_succ]
     refine takeA 16 (some 79) ?va16x142 ⟨_, rfl, rfl, rfl, ?ya16x142⟩ ?_
     case ya16x142 => intro w0 hS; go_simp; try (with_reducible rfl)
     simp only [Act.put, List.setIfInBounds_toArray, List.set_cons_zero, List.set_cons_succ]
     refine wpAnyH_ready (rs := [18]) (by kernel_rfl) (by simp) ?_
     refine AllReadyH.cons rfl (fun K0 hK0 => ?_) AllReadyH.nil
     obtain ⟨⟨-, e0, e1, e2, e3, e4, e5⟩, f0, f1, f2, f3, f4, f5⟩ := id o142ba
     simp only [Nat.zero_add] at e0 e1 e2 e3 e4 e5
     go_simp
     clear e0 e1 e2 e3 e4 e5 f0 f1 f2 f3 f4 f5
     refine hK0.out _ _ ?hS143a (fun hE1 => ?_)
     case hS143a => exact unhide SK _ (set6 hE.1 (by omega) _ _ _ _ _ _)
     clear hK0 K0
     have s143ba := Own.put o142ba 2 false R 0 ⟨#[]⟩ az 0 cz
     generalize ((((((u142a.setCell ⟨g137a, 0, none⟩ (.int .i64 2)).setCell ⟨g137a, 1, none⟩ (.bool false)).setCell ⟨g137a, 2, none⟩ (.int .i64 R)).setCell ⟨g137a, 3, none⟩ (.int .i64 0)).setCell ⟨g137a, 4, none⟩ (.string ⟨#[]⟩)).setCell ⟨g137a, 5, none⟩ (.slice az 0 cz)) = u143a at *
     clear hE o142ba EN142a CA142a CB142a
     have hE := hE1
     clear hE1
     try simp only [Act.put, List.setIfInBounds_toArray, List.set_cons_zero, List.set_cons_succ]
     refine takeA 19 (some 13) ?va19x143 ⟨_, rfl, rfl, rfl, ?ya19x143⟩ ?_
     case ya19x143 => intro w0 hS; go_simp; try (with_reducible rfl)
     simp only [Act.put, List.setIfInBounds_toArray, List.set_cons_zero, List.set_cons_succ]
     refine wpAnyH_done (by kernel_rfl) ?_ _
     refine NoPanic.normal ?_
     obtain ⟨y0, y1, y2, y3, y4, y5, y6⟩ := s143ba
     simp only [Nat.zero_add] at y1 y2 y3 y4 y5 y6
     have BZ := hE.1
     clear hE
     go_wp2_with fail
     go_meet
     exact ⟨_, _, _, _, rfl, rfl, ⟨y1, y2, y3, y4, y5, y6⟩, hide (in_leaf2 (unhide HT)), BZ⟩
    ·skip
     go_simp
     refine hK0.out _ _ ?hS144a (fun hE1 => ?_)
     case hS144a => exact unhide SK _ (keep_alloc hE _)
     clear hK0 K0
     have j144a := below1 u138a (Obj.cells #[.string ⟨#[43]⟩, .string ⟨#[45]⟩, .string ⟨#[42]⟩] 9)
     have z144a : V.heap.size ≤ u138a.heap.size := hE.1.size
     have o144ba := o138ba.below j144a
     have EN144a := hide ((unhide EN138a).below j144a)
     have CA144a := hide ((unhide CA138a).below j144a)
     have CB144a := hide (cellIs_mk (w := u138a.alloc (Obj.cells #[.string ⟨#[43]⟩, .string ⟨#[45]⟩, .string ⟨#[42]⟩] 9)) (g := u138a.heap.size) (o := q) (v := .string ⟨Q.toArray⟩) (unhide HCQ u138a))
     have ne144ba : g137a ≠ u138a.heap.size := Nat.ne_of_lt o138ba.1.1
     generalize u138a.alloc (Obj.cells #[.string ⟨#[43]⟩, .string ⟨#[45]⟩, .string ⟨#[42]⟩] 9) = u144a at *
     generalize u138a.heap.size = g144a at *
     clear j144a
     clear hE o138ba EN138a CA138a
     have hE := hE1
     clear hE1
     try simp only [Act.put, List.setIfInBounds_toArray, List.set_cons_zero, List.set_cons_succ]
     refine takeA 8 (some 72) ?va8x144 ⟨_, rfl, rfl, rfl, ?ya8x144⟩ ?_
     case ya8x144 => intro w0 hS; go_simp; try (with_reducible rfl)
     simp only [Act.put, List.setIfInBounds_toArray, List.set_cons_zero, List.set_cons_succ]
     refine wpAnyH_ready (rs := [3, 9]) (by kernel_rfl) (by simp) ?_
     refine AllReadyH.cons rfl (fun K0 hK0 => ?_) (AllReadyH.cons rfl (fun K0 hK0 => ?_) AllReadyH.nil)
     ·skip
      have hcl := (unhide CA144a : _ = _)
      go_simp
      clear hcl
      refine hK0.out _ _ ?hS145a (fun hE1 => ?_)
      case hS145a => exact hE
      clear hK0 K0 hE
      have hE := hE1
      clear hE1
      try simp only [Act.put, List.setIfInBounds_toArray, List.set_cons_zero, List.set_cons_succ]
      refine takeA 4 (some 68) ?va4x145 ⟨_, rfl, rfl, rfl, ?ya4x145⟩ ?_
      case ya4x145 => intro w0 hS; go_simp; (first | done | (with_reducible rfl) | (rw [if_neg (by omega)]; done) | skip)
      simp only [Act.put, List.setIfInBounds_toArray, List.set_cons_zero, List.set_cons_succ]
      refine takeA 5 (some 69) ?va5x145 ⟨_, rfl, rfl, rfl, ?ya5x145⟩ ?_
      case ya5x145 => intro w0 hS; go_simp; (first | done | (with_reducible rfl) | (rw [if_neg (by omega)]; done) | skip)
      simp only [Act.put, List.setIfInBounds_toArray, List.set_cons_zero, List.set_cons_succ]
      refine wpAnyH_ready (rs := [9]) (by kernel_rfl) (by simp) ?_
      refine AllReadyH.cons rfl (fun K0 hK0 => ?_) AllReadyH.nil
      have hcl := (unhide CB144a : _ = _)
      go_simp
      clear hcl
      refine hK0.out _ _ ?hS146a (fun hE1 => ?_)
      case hS146a => exact hE
      clear hK0 K0 hE
      have hE := hE1
      clear hE1
      try simp only [Act.put, List.setIfInBounds_toArray, List.set_cons_zero, List.set_cons_succ]
      refine takeA 10 (some 74) ?va10x146 ⟨_, rfl, rfl, rfl, ?ya10x146⟩ ?_
      case ya10x146 => intro w0 hS; go_simp; (first | done | (with_reducible rfl) | (rw [if_neg (by omega)]; done) | skip)
      simp only [Act.put, List.setIfInBounds_toArray, List.set_cons_zero, List.set_cons_succ]
      refine takeA 11 (some 75) ?va11x146 ⟨_, rfl, rfl, rfl, ?ya11x146⟩ ?_
      case ya11x146 => intro w0 hS; go_simp; (first | done | (with_reducible rfl) | (rw [if_neg (by omega)]; done) | skip)
      simp only [Act.put, List.setIfInBounds_toArray, List.set_cons_zero, List.set_cons_succ]
      refine wpAnyH_ready (rs := [13]) (by kernel_rfl) (by simp) ?_
      refine AllReadyH.cons rfl (fun K0 hK0 => ?_) AllReadyH.nil
      go_simp
      refine (unhide TD _ _ (unhide EN144a)).mono ?_
      rintro e u147a ⟨⟨v, rfl, T, rfl, hT, hTl, hTb⟩, j147a⟩
      obtain ⟨az, cz, kidz, rfl⟩ := num_form hT hTb
      have HT := hide hT
      clear hT hTl hTb
      dsimp only [VT.val]
      go_wp2_with fail
      refine hK0.out _ _ ?hS147a (fun hE1 => ?_)
      case hS147a => exact unhide SK _ (keep_call hE j147a)
      clear hK0 K0
      have o147ba := o144ba.below j147a
      have EN147a := hide ((unhide EN144a).below j147a)
      have CA147a := hide ((unhide CA144a).below j147a)
      have CB147a := hide ((unhide CB144a).below j147a)
      clear j147a
      clear hE o144ba EN144a CA144a CB144a
      have hE := hE1
      clear hE1
      try simp only [Act.put, List.setIfInBounds_toArray, List.set_cons_zero, List.set_cons_succ]
      refine takeA 14 (some 63) ?va14x147 ⟨_, rfl, rfl, rfl, ?ya14x147⟩ ?_
      case ya14x147 => intro w0 hS; go_simp; try (with_reducible rfl)
      simp only [Act.put, List.setIfInBounds_toArray, List.set_cons_zero, List.set_cons_succ]
      refine takeA 15 (some 78) ?va15x147 ⟨_, rfl, rfl, rfl, ?ya15x147⟩ ?_
      case ya15x147 => intro w0 hS; go_simp; try (with_reducible rfl)
      simp only [Act.put, List.setIfInBounds_toArray, List.set_cons_zero, List.set_cons_succ]
      refine takeA 16 (some 79) ?va16x147 ⟨_, rfl, rfl, rfl, ?ya16x147⟩ ?_
      case ya16x147 => intro w0 hS; go_simp; try (with_reducible rfl)
      simp only [Act.put, List.setIfInBounds_toArray, List.set_cons_zero, List.set_cons_succ]
      refine wpAnyH_ready (rs := [18]) (by kernel_rfl) (by simp) ?_
      refine AllReadyH.cons rfl (fun K0 hK0 => ?_) AllReadyH.nil
      obtain ⟨⟨-, e0, e1, e2, e3, e4, e5⟩, f0, f1, f2, f3, f4, f5⟩ := id o147ba
      simp only [Nat.zero_add] at e0 e1 e2 e3 e4 e5
      go_simp
      clear e0 e1 e2 e3 e4 e5 f0 f1 f2 f3 f4 f5
      refine hK0.out _ _ ?hS148a (fun hE1 => ?_)
      case hS148a => exact unhide SK _ (set6 hE.1 (by omega) _ _ _ _ _ _)
      clear hK0 K0
      have s148ba := Own.put o147ba 2 false R 0 ⟨#[]⟩ az 0 cz
      generalize ((((((u147a.setCell ⟨g137a, 0, none⟩ (.int .i64 2)).setCell ⟨g137a, 1, none⟩ (.bool false)).setCell ⟨g137a, 2, none⟩ (.int .i64 R)).setCell ⟨g137a, 3, none⟩ (.int .i64 0)).setCell ⟨g137a, 4, none⟩ (.string ⟨#[]⟩)).setCell ⟨g137a, 5, none⟩ (.slice az 0 cz)) = u148a at *
      clear hE o147ba EN147a CA147a CB147a
      have hE := hE1
      clear hE1
      try simp only [Act.put, List.setIfInBounds_toArray, List.set_cons_zero, List.set_cons_succ]
      refine takeA 19 (some 13) ?va19x148 ⟨_, rfl, rfl, rfl, ?ya19x148⟩ ?_
      case ya19x148 => intro w0 hS; go_simp; try (with_reducible rfl)
      simp only [Act.put, List.setIfInBounds_toArray, List.set_cons_zero, List.set_cons_succ]
      refine wpAnyH_done (by kernel_rfl) ?_ _
      refine NoPanic.normal ?_
      obtain ⟨y0, y1, y2, y3, y4, y5, y6⟩ := s148ba
      simp only [Nat.zero_add] at y1 y2 y3 y4 y5 y6
      have BZ := hE.1
      clear hE
      go_wp2_with fail
      go_meet
      exact ⟨_, _, _, _, rfl, rfl, ⟨y1, y2, y3, y4, y5, y6⟩, hide (in_leaf2 (unhide HT)), BZ⟩
     ·skip
      have hcl := (unhide CB144a : _ = _)
      go_simp
      clear hcl
      refine hK0.out _ _ ?hS149a (fun hE1 => ?_)
      case hS149a => exact hE
      clear hK0 K0 hE
      have hE := hE1
      clear hE1
      try simp only [Act.put, List.setIfInBounds_toArray, List.set_cons_zero, List.set_cons_succ]
      refine wpAnyH_ready (rs := [3]) (by kernel_rfl) (by simp) ?_
      refine AllReadyH.cons rfl (fun K0 hK0 => ?_) AllReadyH.nil
      have hcl := (unhide CA144a : _ = _)
      go_simp
      clear hcl
      refine hK0.out _ _ ?hS150a (fun hE1 => ?_)
      case hS150a => exact hE
      clear hK0 K0 hE
      have hE := hE1
      clear hE1
      try simp only [Act.put, List.setIfInBounds_toArray, List.set_cons_zero, List.set_cons_succ]
      refine takeA 4 (some 68) ?va4x150 ⟨_, rfl, rfl, rfl, ?ya4x150⟩ ?_
      case ya4x150 => intro w0 hS; go_simp; (first | done | (with_reducible rfl) | (rw [if_neg (by omega)]; done) | skip)
      simp only [Act.put, List.setIfInBounds_toArray, List.set_cons_zero, List.set_cons_succ]
      refine takeA 5 (some 69) ?va5x150 ⟨_, rfl, rfl, rfl, ?ya5x150⟩ ?_
      case ya5x150 => intro w0 hS; go_simp; (first | done | (with_reducible rfl) | (rw [if_neg (by omega)]; done) | skip)
      simp only [Act.put, List.setIfInBounds_toArray, List.set_cons_zero, List.set_cons_succ]
      refine takeA 10 (some 74) ?va10x150 ⟨_, rfl, rfl, rfl, ?ya10x150⟩ ?_
      case ya10x150 => intro w0 hS; go_simp; (first | done | (with_reducible rfl) | (rw [if_neg (by omega)]; done) | skip)
      simp only [Act.put, List.setIfInBounds_toArray, List.set_cons_zero, List.set_cons_succ]
      refine takeA 11 (some 75) ?va11x150 ⟨_, rfl, rfl, rfl, ?ya11x150⟩ ?_
      case ya11x150 => intro w0 hS; go_simp; (first | done | (with_reducible rfl) | (rw [if_neg (by omega)]; done) | skip)
      simp only [Act.put, List.setIfInBounds_toArray, List.set_cons_zero, List.set_cons_succ]
      refine wpAnyH_ready (rs := [13]) (by kernel_rfl) (by simp) ?_
      refine AllReadyH.cons rfl (fun K0 hK0 => ?_) AllReadyH.nil
      go_simp
      refine (unhide TD _ _ (unhide EN144a)).mono ?_
      rintro e u151a ⟨⟨v, rfl, T, rfl, hT, hTl, hTb⟩, j151a⟩
      obtain ⟨az, cz, kidz, rfl⟩ := num_form hT hTb
      have HT := hide hT
      clear hT hTl hTb
      dsimp only [VT.val]
      go_wp2_with fail
      refine hK0.out _ _ ?hS151a (fun hE1 => ?_)
      case hS151a => exact unhide SK _ (keep_call hE j151a)
      clear hK0 K0
      have o151ba := o144ba.below j151a
      have EN151a := hide ((unhide EN144a).below j151a)
      have CA151a := hide ((unhide CA144a).below j151a)
      have CB151a := hide ((unhide CB144a).below j151a)
      clear j151a
      clear hE o144ba EN144a CA144a CB144a
      have hE := hE1
      clear hE1
      try simp only [Act.put, List.setIfInBounds_toArray, List.set_cons_zero, List.set_cons_succ]
      refine takeA 14 (some 63) ?va14x151 ⟨_, rfl, rfl, rfl, ?ya14x151⟩ ?_
      case ya14x151 => intro w0 hS; go_simp; try (with_reducible rfl)
      simp only [Act.put, List.setIfInBounds_toArray, List.set_cons_zero, List.set_cons_succ]
      refine takeA 15 (some 78) ?va15x151 ⟨_, rfl, rfl, rfl, ?ya15x151⟩ ?_
      case ya15x151 => intro w0 hS; go_simp; try (with_reducible rfl)
      simp only [Act.put, List.setIfInBounds_toArray, List.set_cons_zero, List.set_cons_succ]
      refine takeA 16 (some 79) ?va16x151 ⟨_, rfl, rfl, rfl, ?ya16x151⟩ ?_
      case ya16x151 => intro w0 hS; go_simp; try (with_reducible rfl)
      simp only [Act.put, List.setIfInBounds_toArray, List.set_cons_zero, List.set_cons_succ]
      refine wpAnyH_ready (rs := [18]) (by kernel_rfl) (by simp) ?_
      refine AllReadyH.cons rfl (fun K0 hK0 => ?_) AllReadyH.nil
      obtain ⟨⟨-, e0, e1, e2, e3, e4, e5⟩, f0, f1, f2, f3, f4, f5⟩ := id o151ba
      simp only [Nat.zero_add] at e0 e1 e2 e3 e4 e5
      go_simp
      clear e0 e1 e2 e3 e4 e5 f0 f1 f2 f3 f4 f5
      refine hK0.out _ _ ?hS152a (fun hE1 => ?_)
      case hS152a => exact unhide SK _ (set6 hE.1 (by omega) _ _ _ _ _ _)
      clear hK0 K0
      have s152ba := Own.put o151ba 2 false R 0 ⟨#[]⟩ az 0 cz
      generalize ((((((u151a.setCell ⟨g137a, 0, none⟩ (.int .i64 2)).setCell ⟨g137a, 1, none⟩ (.bool false)).setCell ⟨g137a, 2, none⟩ (.int .i64 R)).setCell ⟨g137a, 3, none⟩ (.int .i64 0)).setCell ⟨g137a, 4, none⟩ (.string ⟨#[]⟩)).setCell ⟨g137a, 5, none⟩ (.slice az 0 cz)) = u152a at *
      clear hE o151ba EN151a CA151a CB151a
      have hE := hE1
      clear hE1
      try simp only [Act.put, List.setIfInBounds_toArray, List.set_cons_zero, List.set_cons_succ]
      refine takeA 19 (some 13) ?va19x152 ⟨_, rfl, rfl, rfl, ?ya19x152⟩ ?_
      case ya19x152 => intro w0 hS; go_simp; try (with_reducible rfl)
      simp only [Act.put, List.setIfInBounds_toArray, List.set_cons_zero, List.set_cons_succ]
      refine wpAnyH_done (by kernel_rfl) ?_ _
      refine NoPanic.normal ?_
      obtain ⟨y0, y1, y2, y3, y4, y5, y6⟩ := s152ba
      simp only [Nat.zero_add] at y1 y2 y3 y4 y5 y6
      have BZ := hE.1
      clear hE
      go_wp2_with fail
      go_meet
      exact ⟨_, _, _, _, rfl, rfl, ⟨y1, y2, y3, y4, y5, y6⟩, hide (in_leaf2 (unhide HT)), BZ⟩
   ·skip
    go_simp
    refine hK0.out _ _ ?hS153a (fun hE1 => ?_)
    case hS153a => exact unhide SK _ (keep_alloc hE _)
    clear hK0 K0
    have j153a := below1 u137a (Obj.cells #[.string ⟨#[43]⟩, .string ⟨#[45]⟩, .string ⟨#[42]⟩] 9)
    have z153a : V.heap.size ≤ u137a.heap.size := hE.1.size
    have o153ba := o137ba.below j153a
    have EN153a := hide ((unhide EN137a).below j153a)
    have CB153a := hide (cellIs_mk (w := u137a.alloc (Obj.cells #[.string ⟨#[43]⟩, .string ⟨#[45]⟩, .string ⟨#[42]⟩] 9)) (g := u137a.heap.size) (o := q) (v := .string ⟨Q.toArray⟩) (unhide HCQ u137a))
    have ne153ba : g137a ≠ u137a.heap.size := Nat.ne_of_lt o137ba.1.1
    generalize u137a.alloc (Obj.cells #[.string ⟨#[43]⟩, .string ⟨#[45]⟩, .string ⟨#[42]⟩] 9) = u153a at *
    generalize u137a.heap.size = g153a at *
    clear j153a
    clear hE o137ba EN137a
    have hE := hE1
    clear hE1
    try simp only [Act.put, List.setIfInBounds_toArray, List.set_cons_zero, List.set_cons_succ]
    refine takeA 8 (some 72) ?va8x153 ⟨_, rfl, rfl, rfl, ?ya8x153⟩ ?_
    case ya8x153 => intro w0 hS; go_simp; try (with_reducible rfl)
    simp only [Act.put, List.setIfInBounds_toArray, List.set_cons_zero, List.set_cons_succ]
    refine wpAnyH_ready (rs := [0, 9]) (by kernel_rfl) (by simp) ?_
    refine AllReadyH.cons rfl (fun K0 hK0 => ?_) (AllReadyH.cons rfl (fun K0 hK0 => ?_) AllReadyH.nil)
    ·skip
     go_simp
     refine hK0.out _ _ ?hS154a (fun hE1 => ?_)
     case hS154a => exact unhide SK _ (keep_alloc hE _)
     clear hK0 K0
     have j154a := below1 u153a (Obj.cells #[.string ⟨#[43]⟩, .string ⟨#[45]⟩, .string ⟨#[42]⟩] 9)
     have z154a : V.heap.size ≤ u153a.heap.size := hE.1.size
     have o154ba := o153ba.below j154a
     have EN154a := hide ((unhide EN153a).below j154a)
     have CB154a := hide ((unhide CB153a).below j154a)
     have CA154a := hide (cellIs_mk (w := u153a.alloc (Obj.cells #[.string ⟨#[43]⟩, .string ⟨#[45]⟩, .string ⟨#[42]⟩] 9)) (g := u153a.heap.size) (o := p) (v := .string ⟨P.toArray⟩) (unhide HCP u153a))
     have ne154ba : g137a ≠ u153a.heap.size := Nat.ne_of_lt o153ba.1.1
     generalize u153a.alloc (Obj.cells #[.string ⟨#[43]⟩, .string ⟨#[45]⟩, .string ⟨#[42]⟩] 9) = u154a at *
     generalize u153a.heap.size = g154a at *
     clear j154a
     clear hE o153ba EN153a CB153a
     have hE := hE1
     clear hE1
     try simp only [Act.put, List.setIfInBounds_toArray, List.set_cons_zero, List.set_cons_succ]
     refine takeA 2 (some 66) ?va2x154 ⟨_, rfl, rfl, rfl, ?ya2x154⟩ ?_
     case ya2x154 => intro w0 hS; go_simp; try (with_reducible rfl)
     simp only [Act.put, List.setIfInBounds_toArray, List.set_cons_zero, List.set_cons_succ]
     refine wpAnyH_ready (rs := [3, 9]) (by kernel_rfl) (by simp) ?_
     refine AllReadyH.cons rfl (fun K0 hK0 => ?_) (AllReadyH.cons rfl (fun K0 hK0 => ?_) AllReadyH.nil)
     ·skip
      have hcl := (unhide CA154a : _ = _)
      go_simp
      clear hcl
      refine hK0.out _ _ ?hS155a (fun hE1 => ?_)
      case hS155a => exact hE
      clear hK0 K0 hE
      have hE := hE1
      clear hE1
      try simp only [Act.put, List.setIfInBounds_toArray, List.set_cons_zero, List.set_cons_succ]
      refine takeA 4 (some 68) ?va4x155 ⟨_, rfl, rfl, rfl, ?ya4x155⟩ ?_
      case ya4x155 => intro w0 hS; go_simp; (first | done | (with_reducible rfl) | (rw [if_neg (by omega)]; done) | skip)
      simp only [Act.put, List.setIfInBounds_toArray, List.set_cons_zero, List.set_cons_succ]
      refine takeA 5 (some 69) ?va5x155 ⟨_, rfl, rfl, rfl, ?ya5x155⟩ ?_
      case ya5x155 => intro w0 hS; go_simp; (first | done | (with_reducible rfl) | (rw [if_neg (by omega)]; done) | skip)
      simp only [Act.put, List.setIfInBounds_toArray, List.set_cons_zero, List.set_cons_succ]
      refine wpAnyH_ready (rs := [9]) (by kernel_rfl) (by simp) ?_
      refine AllReadyH.cons rfl (fun K0 hK0 => ?_) AllReadyH.nil
      have hcl := (unhide CB154a : _ = _)
      go_simp
      clear hcl
      refine hK0.out _ _ ?hS156a (fun hE1 => ?_)
      case hS156a => exact hE
      clear hK0 K0 hE
      have hE := hE1
      clear hE1
      try simp only [Act.put, List.setIfInBounds_toArray, List.set_cons_zero, List.set_cons_succ]
      refine takeA 10 (some 74) ?va10x156 ⟨_, rfl, rfl, rfl, ?ya10x156⟩ ?_
      case ya10x156 => intro w0 hS; go_simp; (first | done | (with_reducible rfl) | (rw [if_neg (by omega)]; done) | skip)
      simp only [Act.put, List.setIfInBounds_toArray, List.set_cons_zero, List.set_cons_succ]
      refine takeA 11 (some 75) ?va11x156 ⟨_, rfl, rfl, rfl, ?ya11x156⟩ ?_
      case ya11x156 => intro w0 hS; go_simp; (first | done | (with_reducible rfl) | (rw [if_neg (by omega)]; done) | skip)
      simp only [Act.put, List.setIfInBounds_toArray, List.set_cons_zero, List.set_cons_succ]
      refine wpAnyH_ready (rs := [13]) (by kernel_rfl) (by simp) ?_
      refine AllReadyH.cons rfl (fun K0 hK0 => ?_) AllReadyH.nil
      go_simp
      refine (unhide TD _ _ (unhide EN154a)).mono ?_
      rintro e u157a ⟨⟨v, rfl, T, rfl, hT, hTl, hTb⟩, j157a⟩
      obtain ⟨az, cz, kidz, rfl⟩ := num_form hT hTb
      have HT := hide hT
      clear hT hTl hTb
      dsimp only [VT.val]
      go_wp2_with fail
      refine hK0.out _ _ ?hS157a (fun hE1 => ?_)
      case hS157a => exact unhide SK _ (keep_call hE j157a)
      clear hK0 K0
      have o157ba := o154ba.below j157a
      have EN157a := hide ((unhide EN154a).below j157a)
      have CB157a := hide ((unhide CB154a).below j157a)
      have CA157a := hide ((unhide CA154a).below j157a)
      clear j157a
      clear hE o154ba EN154a CB154a CA154a
      have hE := hE1
      clear hE1
      try simp only [Act.put, List.setIfInBounds_toArray, List.set_cons_zero, List.set_cons_succ]
      refine takeA 14 (some 63) ?va14x157 ⟨_, rfl, rfl, rfl, ?ya14x157⟩ ?_
      case ya14x157 => intro w0 hS; go_simp; try (with_reducible rfl)
      simp only [Act.put, List.setIfInBounds_toArray, List.set_cons_zero, List.set_cons_succ]
      refine takeA 15 (some 78) ?va15x157 ⟨_, rfl, rfl, rfl, ?ya15x157⟩ ?_
      case ya15x157 => intro w0 hS; go_simp; try (with_reducible rfl)
      simp only [Act.put, List.setIfInBounds_toArray, List.set_cons_zero, List.set_cons_succ]
      refine takeA 16 (some 79) ?va16x157 ⟨_, rfl, rfl, rfl, ?ya16x157⟩ ?_
      case ya16x157 => intro w0 hS; go_simp; try (with_reducible rfl)
      simp only [Act.put, List.setIfInBounds_toArray, List.set_cons_zero, List.set_cons_succ]
      refine wpAnyH_ready (rs := [18]) (by kernel_rfl) (by simp) ?_
      refine AllReadyH.cons rfl (fun K0 hK0 => ?_) AllReadyH.nil
      obtain ⟨⟨-, e0, e1, e2, e3, e4, e5⟩, f0, f1, f2, f3, f4, f5⟩ := id o157ba
      simp only [Nat.zero_add] at e0 e1 e2 e3 e4 e5
      go_simp
      clear e0 e1 e2 e3 e4 e5 f0 f1 f2 f3 f4 f5
      refine hK0.out _ _ ?hS158a (fun hE1 => ?_)
      case hS158a => exact unhide SK _ (set6 hE.1 (by omega) _ _ _ _ _ _)
      clear hK0 K0
      have s158ba := Own.put o157ba 2 false R 0 ⟨#[]⟩ az 0 cz
      generalize ((((((u157a.setCell ⟨g137a, 0, none⟩ (.int .i64 2)).setCell ⟨g137a, 1, none⟩ (.bool false)).setCell ⟨g137a, 2, none⟩ (.int .i64 R)).setCell ⟨g137a, 3, none⟩ (.int .i64 0)).setCell ⟨g137a, 4, none⟩ (.string ⟨#[]⟩)).setCell ⟨g137a, 5, none⟩ (.slice az 0 cz)) = u158a at *
      clear hE o157ba EN157a CB157a CA157a
      have hE := hE1
      clear hE1
      try simp only [Act.put, List.setIfInBounds_toArray, List.set_cons_zero, List.set_cons_succ]
      refine takeA 19 (some 13) ?va19x158 ⟨_, rfl, rfl, rfl, ?ya19x158⟩ ?_
      case ya19x158 => intro w0 hS; go_simp; try (with_reducible rfl)
      simp only [Act.put, List.setIfInBounds_toArray, List.set_cons_zero, List.set_cons_succ]
      refine wpAnyH_done (by kernel_rfl) ?_ _
      refine NoPanic.normal ?_
      obtain ⟨y0, y1, y2, y3, y4, y5, y6⟩ := s158ba
      simp only [Nat.zero_add] at y1 y2 y3 y4 y5 y6
      have BZ := hE.1
      clear hE
      go_wp2_with fail
      go_meet
      exact ⟨_, _, _, _, rfl, rfl, ⟨y1, y2, y3, y4, y5, y6⟩, hide (in_leaf2 (unhide HT)), BZ⟩
     ·skip
      have hcl := (unhide CB154a : _ = _)
      go_simp
      clear hcl
      refine hK0.out _ _ ?hS159a (fun hE1 => ?_)
      case hS159a => exact hE
      clear hK0 K0 hE
      have hE := hE1
      clear hE1
      try simp only [Act.put, List.setIfInBounds_toArray, List.set_cons_zero, List.set_cons_succ]
      refine wpAnyH_ready (rs := [3]) (by kernel_rfl) (by simp) ?_
      refine AllReadyH.cons rfl (fun K0 hK0 => ?_) AllReadyH.nil
      have hcl := (unhide CA154a : _ = _)
      go_simp
      clear hcl
      refine hK0.out _ _ ?hS160a (fun hE1 => ?_)
      case hS160a => exact hE
      clear hK0 K0 hE
      have hE := hE1
      clear hE1
      try simp only [Act.put, List.setIfInBounds_toArray, List.set_cons_zero, List.set_cons_succ]
      refine takeA 4 (some 68) ?va4x160 ⟨_, rfl, rfl, rfl, ?ya4x160⟩ ?_
      case ya4x160 => intro w0 hS; go_simp; (first | done | (with_reducible rfl) | (rw [if_neg (by omega)]; done) | skip)
      simp only [Act.put, List.setIfInBounds_toArray, List.set_cons_zero, List.set_cons_succ]
      refine takeA 5 (some 69) ?va5x160 ⟨_, rfl, rfl, rfl, ?ya5x160⟩ ?_
      case ya5x160 => intro w0 hS; go_simp; (first | done | (with_reducible rfl) | (rw [if_neg (by omega)]; done) | skip)
      simp only [Act.put, List.setIfInBounds_toArray, List.set_cons_zero, List.set_cons_succ]
      refine takeA 10 (some 74) ?va10x160 ⟨_, rfl, rfl, rfl, ?ya10x160⟩ ?_
      case ya10x160 => intro w0 hS; go_simp; (first | done | (with_reducible rfl) | (rw [if_neg (by omega)]; done) | skip)
      simp only [Act.put, List.setIfInBounds_toArray, List.set_cons_zero, List.set_cons_succ]
      refine takeA 11 (some 75) ?va11x160 ⟨_, rfl, rfl, rfl, ?ya11x160⟩ ?_
      case ya11x160 => intro w0 hS; go_simp; (first | done | (with_reducible rfl) | (rw [if_neg (by omega)]; done) | skip)
      simp only [Act.put, List.setIfInBounds_toArray, List.set_cons_zero, List.set_cons_succ]
      refine wpAnyH_ready (rs := [13]) (by kernel_rfl) (by simp) ?_
      refine AllReadyH.cons rfl (fun K0 hK0 => ?_) AllReadyH.nil
      go_simp
      refine (unhide TD _ _ (unhide EN154a)).mono ?_
      rintro e u161a ⟨⟨v, rfl, T, rfl, hT, hTl, hTb⟩, j161a⟩
      obtain ⟨az, cz, kidz, rfl⟩ := num_form hT hTb
      have HT := hide hT
      clear hT hTl hTb
      dsimp only [VT.val]
      go_wp2_with fail
      refine hK0.out _ _ ?hS161a (fun hE1 => ?_)
      case hS161a => exact unhide SK _ (keep_call hE j161a)
      clear hK0 K0
      have o161ba := o154ba.below j161a
      have EN161a := hide ((unhide EN154a).below j161a)
      have CB161a := hide ((unhide CB154a).below j161a)
      have CA161a := hide ((unhide CA154a).below j161a)
      clear j161a
      clear hE o154ba EN154a CB154a CA154a
      have hE := hE1
      clear hE1
      try simp only [Act.put, List.setIfInBounds_toArray, List.set_cons_zero, List.set_cons_succ]
      refine takeA 14 (some 63) ?va14x161 ⟨_, rfl, rfl, rfl, ?ya14x161⟩ ?_
      case ya14x161 => intro w0 hS; go_simp; try (with_reducible rfl)
      simp only [Act.put, List.setIfInBounds_toArray, List.set_cons_zero, List.set_cons_succ]
      refine takeA 15 (some 78) ?va15x161 ⟨_, rfl, rfl, rfl, ?ya15x161⟩ ?_
      case ya15x161 => intro w0 hS; go_simp; try (with_reducible rfl)
      simp only [Act.put, List.setIfInBounds_toArray, List.set_cons_zero, List.set_cons_succ]
      refine takeA 16 (some 79) ?va16x161 ⟨_, rfl, rfl, rfl, ?ya16x161⟩ ?_
      case ya16x161 => intro w0 hS; go_simp; try (with_reducible rfl)
      simp only [Act.put, List.setIfInBounds_toArray, List.set_cons_zero, List.set_cons_succ]
      refine wpAnyH_ready (rs := [18]) (by kernel_rfl) (by simp) ?_
      refine AllReadyH.cons rfl (fun K0 hK0 => ?_) AllReadyH.nil
      obtain ⟨⟨-, e0, e1, e2, e3, e4, e5⟩, f0, f1, f2, f3, f4, f5⟩ := id o161ba
      simp only [Nat.zero_add] at e0 e1 e2 e3 e4 e5
      go_simp
      clear e0 e1 e2 e3 e4 e5 f0 f1 f2 f3 f4 f5
      refine hK0.out _ _ ?hS162a (fun hE1 => ?_)
      case hS162a => exact unhide SK _ (set6 hE.1 (by omega) _ _ _ _ _ _)
      clear hK0 K0
      have s162ba := Own.put o161ba 2 false R 0 ⟨#[]⟩ az 0 cz
      generalize ((((((u161a.setCell ⟨g137a, 0, none⟩ (.int .i64 2)).setCell ⟨g137a, 1, none⟩ (.bool false)).setCell ⟨g137a, 2, none⟩ (.int .i64 R)).setCell ⟨g137a, 3, none⟩ (.int .i64 0)).setCell ⟨g137a, 4, none⟩ (.string ⟨#[]⟩)).setCell ⟨g137a, 5, none⟩ (.slice az 0 cz)) = u162a at *
      clear hE o161ba EN161a CB161a CA161a
      have hE := hE1
      clear hE1
      try simp only [Act.put, List.setIfInBounds_toArray, List.set_cons_zero, List.set_cons_succ]
      refine takeA 19 (some 13) ?va19x162 ⟨_, rfl, rfl, rfl, ?ya19x162⟩ ?_
      case ya19x162 => intro w0 hS; go_simp; try (with_reducible rfl)
      simp only [Act.put, List.setIfInBounds_toArray, List.set_cons_zero, List.set_cons_succ]
      refine wpAnyH_done (by kernel_rfl) ?_ _
      refine NoPanic.normal ?_
      obtain ⟨y0, y1, y2, y3, y4, y5, y6⟩ := s162ba
      simp only [Nat.zero_add] at y1 y2 y3 y4 y5 y6
      have BZ := hE.1
      clear hE
      go_wp2_with fail
      go_meet
      exact ⟨_, _, _, _, rfl, rfl, ⟨y1, y2, y3, y4, y5, y6⟩, hide (in_leaf2 (unhide HT)), BZ⟩
    ·skip
     have hcl := (unhide CB153a : _ = _)
     go_simp
     clear hcl
     refine hK0.out _ _ ?hS163a (fun hE1 => ?_)
     case hS163a => exact hE
     clear hK0 K0 hE
     have hE := hE1
     clear hE1
     try simp only [Act.put, List.setIfInBounds_toArray, List.set_cons_zero, List.set_cons_succ]
     refine wpAnyH_ready (rs := [0]) (by kernel_rfl) (by simp) ?_
     refine AllReadyH.cons rfl (fun K0 hK0 => ?_) AllReadyH.nil
     go_simp
     refine hK0.out _ _ ?hS164a (fun hE1 => ?_)
     case hS164a => exact unhide SK _ (keep_alloc hE _)
     clear hK0 K0
     have j164a := below1 u153a (Obj.cells #[.string ⟨#[43]⟩, .string ⟨#[45]⟩, .string ⟨#[42]⟩] 9)
     have z164a : V.heap.size ≤ u153a.heap.size := hE.1.size
     have o164ba := o153ba.below j164a
     have EN164a := hide ((unhide EN153a).below j164a)
     have CB164a := hide ((unhide CB153a).below j164a)
     have CA164a := hide (cellIs_mk (w := u153a.alloc (Obj.cells #[.string ⟨#[43]⟩, .string ⟨#[45]⟩, .string ⟨#[42]⟩] 9)) (g := u153a.heap.size) (o := p) (v := .string ⟨P.toArray⟩) (unhide HCP u153a))
     have ne164ba : g137a ≠ u153a.heap.size := Nat.ne_of_lt o153ba.1.1
     generalize u153a.alloc (Obj.cells #[.string ⟨#[43]⟩, .string ⟨#[45]⟩, .string ⟨#[42]⟩] 9) = u164a at *
     generalize u153a.heap.size = g164a at *
     clear j164a
     clear hE o153ba EN153a CB153a
     have hE := hE1
     clear hE1
     try simp only [Act.put, List.setIfInBounds_toArray, List.set_cons_zero, List.set_cons_succ]
     refine takeA 2 (some 66) ?va2x164 ⟨_, rfl, rfl, rfl, ?ya2x164⟩ ?_
     case ya2x164 => intro w0 hS; go_simp; try (with_reducible rfl)
     simp only [Act.put, List.setIfInBounds_toArray, List.set_cons_zero, List.set_cons_succ]
     refine wpAnyH_ready (rs := [3]) (by kernel_rfl) (by simp) ?_
     refine AllReadyH.cons rfl (fun K0 hK0 => ?_) AllReadyH.nil
     have hcl := (unhide CA164a : _ = _)
     go_simp
     clear hcl
     refine hK0.out _ _ ?hS165a (fun hE1 => ?_)
     case hS165a => exact hE
     clear hK0 K0 hE
     have hE := hE1
     clear hE1
     try simp only [Act.put, List.setIfInBounds_toArray, List.set_cons_zero, List.set_cons_succ]
     refine takeA 4 (some 68) ?va4x165 ⟨_, rfl, rfl, rfl, ?ya4x165⟩ ?_
     case ya4x165 => intro w0 hS; go_simp; (first | done | (with_reducible rfl) | (rw [if_neg (by omega)]; done) | skip)
     simp only [Act.put, List.setIfInBounds_toArray, List.set_cons_zero, List.set_cons_succ]
     refine takeA 5 (some 69) ?va5x165 ⟨_, rfl, rfl, rfl, ?ya5x165⟩ ?_
     case ya5x165 => intro w0 hS; go_simp; (first | done | (with_reducible rfl) | (rw [if_neg (by omega)]; done) | skip)
     simp only [Act.put, List.setIfInBounds_toArray, List.set_cons_zero, List.set_cons_succ]
     refine takeA 10 (some 74) ?va10x165 ⟨_, rfl, rfl, rfl, ?ya10x165⟩ ?_
     case ya10x165 => intro w0 hS; go_simp; (first | done | (with_reducible rfl) | (rw [if_neg (by omega)]; done) | skip)
     simp only [Act.put, List.setIfInBounds_toArray, List.set_cons_zero, List.set_cons_succ]
     refine takeA 11 (some 75) ?va11x165 ⟨_, rfl, rfl, rfl, ?ya11x165⟩ ?_
     case ya11x165 => intro w0 hS; go_simp; (first | done | (with_reducible rfl) | (rw [if_neg (by omega)]; done) | skip)
     simp only [Act.put, List.setIfInBounds_toArray, List.set_cons_zero, List.set_cons_succ]
     refine wpAnyH_ready (rs := [13]) (by kernel_rfl) (by simp) ?_
     refine AllReadyH.cons rfl (fun K0 hK0 => ?_) AllReadyH.nil
     go_simp
     refine (unhide TD _ _ (unhide EN164a)).mono ?_
     rintro e u166a ⟨⟨v, rfl, T, rfl, hT, hTl, hTb⟩, j166a⟩
     obtain ⟨az, cz, kidz, rfl⟩ := num_form hT hTb
     have HT := hide hT
     clear hT hTl hTb
     dsimp only [VT.val]
     go_wp2_with fail
     refine hK0.out _ _ ?hS166a (fun hE1 => ?_)
     case hS166a => exact unhide SK _ (keep_call hE j166a)
     clear hK0 K0
     have o166ba := o164ba.below j166a
     have EN166a := hide ((unhide EN164a).below j166a)
     have CB166a := hide ((unhide CB164a).below j166a)
     have CA166a := hide ((unhide CA164a).below j166a)
     clear j166a
     clear hE o164ba EN164a CB164a CA164a
     have hE := hE1
     clear hE1
     try simp only [Act.put, List.setIfInBounds_toArray, List.set_cons_zero, List.set_cons_succ]
     refine takeA 14 (some 63) ?va14x166 ⟨_, rfl, rfl, rfl, ?ya14x166⟩ ?_
     case ya14x166 => intro w0 hS; go_simp; try (with_reducible rfl)
     simp only [Act.put, List.setIfInBounds_toArray, List.set_cons_zero, List.set_cons_succ]
     refine takeA 15 (some 78) ?va15x166 ⟨_, rfl, rfl, rfl, ?ya15x166⟩ ?_
     case ya15x166 => intro w0 hS; go_simp; try (with_reducible rfl)
     simp only [Act.put, List.setIfInBounds_toArray, List.set_cons_zero, List.set_cons_succ]
     refine takeA 16 (some 79) ?va16x166 ⟨_, rfl, rfl, rfl, ?ya16x166⟩ ?_
     case ya16x166 => intro w0 hS; go_simp; try (with_reducible rfl)
     simp only [Act.put, List.setIfInBounds_toArray, List.set_cons_zero, List.set_cons_succ]
     refine wpAnyH_ready (rs := [18]) (by kernel_rfl) (by simp) ?_
     refine AllReadyH.cons rfl (fun K0 hK0 => ?_) AllReadyH.nil
     obtain ⟨⟨-, e0, e1, e2, e3, e4, e5⟩, f0, f1, f2, f3, f4, f5⟩ := id o166ba
     simp only [Nat.zero_add] at e0 e1 e2 e3 e4 e5
     go_simp
     clear e0 e1 e2 e3 e4 e5 f0 f1 f2 f3 f4 f5
     refine hK0.out _ _ ?hS167a (fun hE1 => ?_)
     case hS167a => exact unhide SK _ (set6 hE.1 (by omega) _ _ _ _ _ _)
     clear hK0 K0
     have s167ba := Own.put o166ba 2 false R 0 ⟨#[]⟩ az 0 cz
     generalize ((((((u166a.setCell ⟨g137a, 0, none⟩ (.int .i64 2)).setCell ⟨g137a, 1, none⟩ (.bool false)).setCell ⟨g137a, 2, none⟩ (.int .i64 R)).setCell ⟨g137a, 3, none⟩ (.int .i64 0)).setCell ⟨g137a, 4, none⟩ (.string ⟨#[]⟩)).setCell ⟨g137a, 5, none⟩ (.slice az 0 cz)) = u167a at *
     clear hE o166ba EN166a CB166a CA166a
     have hE := hE1
     clear hE1
     try simp only [Act.put, List.setIfInBounds_toArray, List.set_cons_zero, List.set_cons_succ]
     refine takeA 19 (some 13) ?va19x167 ⟨_, rfl, rfl, rfl, ?ya19x167⟩ ?_
     case ya19x167 => intro w0 hS; go_simp; try (with_reducible rfl)
     simp only [Act.put, List.setIfInBounds_toArray, List.set_cons_zero, List.set_cons_succ]
     refine wpAnyH_done (by kernel_rfl) ?_ _
     refine NoPanic.normal ?_
     obtain ⟨y0, y1, y2, y3, y4, y5, y6⟩ := s167ba
     simp only [Nat.zero_add] at y1 y2 y3 y4 y5 y6
     have BZ := hE.1
     clear hE
     go_wp2_with fail
     go_meet
     exact ⟨_, _, _, _, rfl, rfl, ⟨y1, y2, y3, y4, y5, y6⟩, hide (in_leaf2 (unhide HT)), BZ⟩

 case rest =>
  obtain ⟨g, az, cz, kidz, rfl, rfl, ⟨y0, y1, y2, y3, y4, y5⟩, HT, BC⟩ := hcut
  have B5 := bstep (unhide B4) BC
  clear BC B4

  by_cases hp2 : p < 2
  ·have g1 : (p : Int) < 2 := by omega
   by_cases hq2 : q = 2
   ·subst hq2
    have HR2 := hide (show opI p a (opI 2 b c) = R by rw [unhide HW, if_pos ⟨hp2, rfl⟩])
    go_wp2_with fail
    refine (unhide OP3 _).mono ?_
    rintro e w5 ⟨rfl, rfl⟩
    go_wp2_with fail
    refine (unhide OP4 _).mono ?_
    rintro e w5 ⟨rfl, rfl⟩
    rw [unhide HR2]
    go_wp2_with fail
    have SK : Hid (∀ w', Below w5.heap.size w5 w' → (Below w5.heap.size w5 w' ∧ w'.cell? ⟨g, 0, none⟩ = some (.int .i64 2) ∧ w'.cell? ⟨g, 1, none⟩ = some (.bool false) ∧ w'.cell? ⟨g, 2, none⟩ = some (.int .i64 R) ∧ w'.cell? ⟨g, 3, none⟩ = some (.int .i64 0) ∧ w'.cell? ⟨g, 4, none⟩ = some (.string ⟨#[]⟩) ∧ w'.cell? ⟨g, 5, none⟩ = some (.slice az 0 cz))) := hide (fun w' kk => ⟨kk, kcell kk (World.block_lt_of_cell? _ _ y0) y0, kcell kk (World.block_lt_of_cell? _ _ y1) y1, kcell kk (World.block_lt_of_cell? _ _ y2) y2, kcell kk (World.block_lt_of_cell? _ _ y3) y3, kcell kk (World.block_lt_of_cell? _ _ y4) y4, kcell kk (World.block_lt_of_cell? _ _ y5) y5⟩)
    go_region_held3 (fun w' => Below w5.heap.size w5 w' ∧ w'.cell? ⟨g, 0, none⟩ = some (.int .i64 2) ∧ w'.cell? ⟨g, 1, none⟩ = some (.bool false) ∧ w'.cell? ⟨g, 2, none⟩ = some (.int .i64 R) ∧ w'.cell? ⟨g, 3, none⟩ = some (.int .i64 0) ∧ w'.cell? ⟨g, 4, none⟩ = some (.string ⟨#[]⟩) ∧ w'.cell? ⟨g, 5, none⟩ = some (.slice az 0 cz))
     (first | exact unhide SK _ (Below.refl _ _).drew | assumption | exact unhide SK _ q4 | (refine unhide SK _ ?_; exact zBM; done))
     (first
      | (go_at_call 17; refine (lnum_any _ _).mono ?_; unfold lfv; rintro e w4 ⟨rfl, k4⟩; have q3 := fun h => bstep (W := w5) h k4; have q4 := q3 (zBM); clear q3; have q5 := q4.size; obtain ⟨c4, f4⟩ := bcell k4)
      | (go_at_call 13; refine (slf_same 2 false R 0 ⟨#[]⟩ az cz kidz (unhide HT) _).mono ?_; rintro e w4 ⟨rfl, k4⟩; have q3 := fun h => bstep (W := w5) h k4; have q4 := q3 (zBM); clear q3; have q5 := q4.size; obtain ⟨c4, f4⟩ := bcell k4)
      | (go_at_call 15; refine (eknown_any _).mono ?_; rintro e w4 ⟨rfl, k4⟩; have q3 := fun h => bstep (W := w5) h k4; have q4 := q3 (zBM); clear q3; have q5 := q4.size; obtain ⟨c4, f4⟩ := bcell k4))
    all_goals
     go_wp2_with fail
     go_ret
     exact ⟨rfl, bstep B5 (And.left (by assumption))⟩
   ·have g2 : ((q : Int) == 2) = false := by simp; omega
    have HR2 := hide (show opI q (opI p a b) c = R by rw [unhide HW, if_neg (fun h => hq2 h.2)])
    go_wp2_with fail
    refine (unhide OP1 _).mono ?_
    rintro e w5 ⟨rfl, rfl⟩
    go_wp2_with fail
    refine (unhide OP2 _).mono ?_
    rintro e w5 ⟨rfl, rfl⟩
    rw [unhide HR2]
    go_wp2_with fail
    have SK : Hid (∀ w', Below w5.heap.size w5 w' → (Below w5.heap.size w5 w' ∧ w'.cell? ⟨g, 0, none⟩ = some (.int .i64 2) ∧ w'.cell? ⟨g, 1, none⟩ = some (.bool false) ∧ w'.cell? ⟨g, 2, none⟩ = some (.int .i64 R) ∧ w'.cell? ⟨g, 3, none⟩ = some (.int .i64 0) ∧ w'.cell? ⟨g, 4, none⟩ = some (.string ⟨#[]⟩) ∧ w'.cell? ⟨g, 5, none⟩ = some (.slice az 0 cz))) := hide (fun w' kk => ⟨kk, kcell kk (World.block_lt_of_cell? _ _ y0) y0, kcell kk (World.block_lt_of_cell? _ _ y1) y1, kcell kk (World.block_lt_of_cell? _ _ y2) y2, kcell kk (World.block_lt_of_cell? _ _ y3) y3, kcell kk (World.block_lt_of_cell? _ _ y4) y4, kcell kk (World.block_lt_of_cell? _ _ y5) y5⟩)
    go_region_held3 (fun w' => Below w5.heap.size w5 w' ∧ w'.cell? ⟨g, 0, none⟩ = some (.int .i64 2) ∧ w'.cell? ⟨g, 1, none⟩ = some (.bool false) ∧ w'.cell? ⟨g, 2, none⟩ = some (.int .i64 R) ∧ w'.cell? ⟨g, 3, none⟩ = some (.int .i64 0) ∧ w'.cell? ⟨g, 4, none⟩ = some (.string ⟨#[]⟩) ∧ w'.cell? ⟨g, 5, none⟩ = some (.slice az 0 cz))
     (first | exact unhide SK _ (Below.refl _ _).drew | assumption | exact unhide SK _ q4 | (refine unhide SK _ ?_; exact zBM; done))
     (first
      | (go_at_call 17; refine (lnum_any _ _).mono ?_; unfold lfv; rintro e w4 ⟨rfl, k4⟩; have q3 := fun h => bstep (W := w5) h k4; have q4 := q3 (zBM); clear q3; have q5 := q4.size; obtain ⟨c4, f4⟩ := bcell k4)
      | (go_at_call 13; refine (slf_same 2 false R 0 ⟨#[]⟩ az cz kidz (unhide HT) _).mono ?_; rintro e w4 ⟨rfl, k4⟩; have q3 := fun h => bstep (W := w5) h k4; have q4 := q3 (zBM); clear q3; have q5 := q4.size; obtain ⟨c4, f4⟩ := bcell k4)
      | (go_at_call 15; refine (eknown_any _).mono ?_; rintro e w4 ⟨rfl, k4⟩; have q3 := fun h => bstep (W := w5) h k4; have q4 := q3 (zBM); clear q3; have q5 := q4.size; obtain ⟨c4, f4⟩ := bcell k4))
    all_goals
     go_wp2_with fail
     go_ret
     exact ⟨rfl, bstep B5 (And.left (by assumption))⟩
  ·have g1 : ¬ (p : Int) < 2 := by omega
   have HR2 := hide (show opI q (opI p a b) c = R by rw [unhide HW, if_neg (fun h => hp2 h.1)])
   go_wp2_with fail
   refine (unhide OP1 _).mono ?_
   rintro e w5 ⟨rfl, rfl⟩
   go_wp2_with fail
   refine (unhide OP2 _).mono ?_
   rintro e w5 ⟨rfl, rfl⟩
   rw [unhide HR2]
   go_wp2_with fail
   have SK : Hid (∀ w', Below w5.heap.size w5 w' → (Below w5.heap.size w5 w' ∧ w'.cell? ⟨g, 0, none⟩ = some (.int .i64 2) ∧ w'.cell? ⟨g, 1, none⟩ = some (.bool false) ∧ w'.cell? ⟨g, 2, none⟩ = some (.int .i64 R) ∧ w'.cell? ⟨g, 3, none⟩ = some (.int .i64 0) ∧ w'.cell? ⟨g, 4, none⟩ = some (.string ⟨#[]⟩) ∧ w'.cell? ⟨g, 5, none⟩ = some (.slice az 0 cz))) := hide (fun w' kk => ⟨kk, kcell kk (World.block_lt_of_cell? _ _ y0) y0, kcell kk (World.block_lt_of_cell? _ _ y1) y1, kcell kk (World.block_lt_of_cell? _ _ y2) y2, kcell kk (World.block_lt_of_cell? _ _ y3) y3, kcell kk (World.block_lt_of_cell? _ _ y4) y4, kcell kk (World.block_lt_of_cell? _ _ y5) y5⟩)
   go_region_held3 (fun w' => Below w5.heap.size w5 w' ∧ w'.cell? ⟨g, 0, none⟩ = some (.int .i64 2) ∧ w'.cell? ⟨g, 1, none⟩ = some (.bool false) ∧ w'.cell? ⟨g, 2, none⟩ = some (.int .i64 R) ∧ w'.cell? ⟨g, 3, none⟩ = some (.int .i64 0) ∧ w'.cell? ⟨g, 4, none⟩ = some (.string ⟨#[]⟩) ∧ w'.cell? ⟨g, 5, none⟩ = some (.slice az 0 cz))
    (first | exact unhide SK _ (Below.refl _ _).drew | assumption | exact unhide SK _ q4 | (refine unhide SK _ ?_; exact zBM; done))
    (first
     | (go_at_call 17; refine (lnum_any _ _).mono ?_; unfold lfv; rintro e w4 ⟨rfl, k4⟩; have q3 := fun h => bstep (W := w5) h k4; have q4 := q3 (zBM); clear q3; have q5 := q4.size; obtain ⟨c4, f4⟩ := bcell k4)
     | (go_at_call 13; refine (slf_same 2 false R 0 ⟨#[]⟩ az cz kidz (unhide HT) _).mono ?_; rintro e w4 ⟨rfl, k4⟩; have q3 := fun h => bstep (W := w5) h k4; have q4 := q3 (zBM); clear q3; have q5 := q4.size; obtain ⟨c4, f4⟩ := bcell k4)
     | (go_at_call 15; refine (eknown_any _).mono ?_; rintro e w4 ⟨rfl, k4⟩; have q3 := fun h => bstep (W := w5) h k4; have q4 := q3 (zBM); clear q3; have q5 := q4.size; obtain ⟨c4, f4⟩ := bcell k4))
   all_goals
    go_wp2_with fail
    go_ret
    exact ⟨rfl, bstep B5 (And.left (by assumption))⟩
end Go.Proofs.YtfdimdjmnfdecaaGreat

/- The walk of EvalRels: of any two values how they stand. (Printed by mkrels.py.) -/
import Derived.Test.YtfdimdjmnfdecaaGreatHZ
import Derived.Test.YtfdimdjmnfdecaaGreatHBG
import Derived.Test.YtfdimdjmnfdecaaGreatHAI
import Derived.Test.YtfdimdjmnfdecaaGreatHBC
import Derived.Test.YtfdimdjmnfdecaaGreatHAC
import Derived.Test.YtfdimdjmnfdecaaGreatHAF
import Derived.Test.YtfdimdjmnfdecaaGreatHAB
import Derived.Deep.DeepCutAuto
namespace Go.Proofs.YtfdimdjmnfdecaaGreat
open Go.RowKit
open VT (leaf mkV)
set_option linter.unusedVariables false
set_option linter.unusedSimpArgs false

theorem rel_leaf (l : List UInt8) (x y : VT) : ∃ k b, relT l x y = leaf k b 0 0 ⟨#[]⟩ ∧ ∀ w : World, (leaf k b 0 0 ⟨#[]⟩).In w := by
 unfold relT booV nilV
 have h0 : ∀ w : World, (leaf 0 false 0 0 ⟨#[]⟩).In w := fun w => VT.in_leaf rfl rfl rfl (Nat.zero_le _)
 have h1 : ∀ b, ∀ w : World, (leaf 1 b 0 0 ⟨#[]⟩).In w := fun b w => VT.in_leaf rfl rfl rfl (Nat.zero_le _)
 repeat' split
 all_goals first | exact ⟨_, _, rfl, h1 _⟩ | exact ⟨_, _, rfl, h0⟩
theorem rel_two (x y : VT) : (∃ b c, relT [60] x y = leaf 1 b 0 0 ⟨#[]⟩ ∧ relT [62, 61] x y = leaf 1 c 0 0 ⟨#[]⟩ ∧ (b == c) = false) ∨ (relT [60] x y = leaf 0 false 0 0 ⟨#[]⟩ ∧ relT [62, 61] x y = leaf 0 false 0 0 ⟨#[]⟩) := by
 by_cases hk : (kdV x = 2 ∧ kdV y = 2) ∨ (kdV x = 3 ∧ kdV y = 3)
 ·left
  refine ⟨decide (x.cmp y < 0), decide (0 ≤ x.cmp y), ?_, ?_, ?_⟩
  ·unfold relT; rw [if_neg (by decide), if_neg (by decide), if_pos hk, if_pos rfl]; rfl
  ·unfold relT; rw [if_neg (by decide), if_neg (by decide), if_pos hk, if_neg (by decide), if_neg (by decide), if_neg (by decide), if_pos rfl]; rfl
  ·by_cases h : x.cmp y < 0
   ·rw [decide_eq_true h, decide_eq_false (by omega)]; rfl
   ·rw [decide_eq_false h, decide_eq_true (by omega)]; rfl
 ·right
  constructor
  ·unfold relT; rw [if_neg (by decide), if_neg (by decide), if_neg hk]; rfl
  ·unfold relT; rw [if_neg (by decide), if_neg (by decide), if_neg hk]; rfl
theorem rel_eqs (x y : VT) : ∃ c, relT [61] x y = leaf 1 c 0 0 ⟨#[]⟩ ∧ relT [33, 61] x y = leaf 1 (!c) 0 0 ⟨#[]⟩ := ⟨_, rfl, rfl⟩

set_option maxHeartbeats 16000000 in
set_option maxRecDepth 10000 in
theorem evalRels_in (l : List UInt8) (k : Int) (b : Bool) (m s : Int) (t : ByteArray) (a : Option Addr) (len cap : Nat) (kid : Nat → VT) (k' : Int) (b' : Bool) (m' s' : Int) (t' : ByteArray) (a' : Option Addr) (len' cap' : Nat) (kid' : Nat → VT) (w : World) (hin : (VT.mk k b m s t a len cap kid).In w) (hin' : (VT.mk k' b' m' s' t' a' len' cap' kid').In w) (hl : l.length ≤ 20) (h1 : ¬ 20 < len) (h2 : ¬ 20 < len') (hx : (VT.mk k b m s t a len cap kid).okB 2 = true) (hy : (VT.mk k' b' m' s' t' a' len' cap' kid').okB 2 = true) :
  Calls Tryz.prog 6 #[.string ⟨l.toArray⟩, .agg #[.int .i64 k, .bool b, .int .i64 m, .int .i64 s, .string t, .slice a len cap], .agg #[.int .i64 k', .bool b', .int .i64 m', .int .i64 s', .string t', .slice a' len' cap']] w fun e w' => e = .returned (.bool true) ∧ Below w.heap.size w w' := by
 have F0 := (six_new w k b m s t a len cap).below (below1 _ (Obj.cells #[.int .i64 k', .bool b', .int .i64 m', .int .i64 s', .string t', .slice a' len' cap'] 32))
 have F1 := six_new (w.alloc (Obj.cells #[.int .i64 k, .bool b, .int .i64 m, .int .i64 s, .string t, .slice a len cap] 32)) k' b' m' s' t' a' len' cap'
 have b0 := below2 w (Obj.cells #[.int .i64 k, .bool b, .int .i64 m, .int .i64 s, .string t, .slice a len cap] 32) (Obj.cells #[.int .i64 k', .bool b', .int .i64 m', .int .i64 s', .string t', .slice a' len' cap'] 32)
 rw [show (w.alloc (Obj.cells #[.int .i64 k, .bool b, .int .i64 m, .int .i64 s, .string t, .slice a len cap] 32)).heap.size = w.heap.size + 1 by simp] at F1
 have XI := hide (hin.below b0)
 have YI := hide (hin'.below b0)
 have IA := hide (fun w h => rIs_any (VT.mk k b m s t a len cap kid) w h)
 have IB := hide (fun w h => rIs_any (VT.mk k' b' m' s' t' a' len' cap' kid') w h)
 rw [hx] at IA
 rw [hy] at IB
 obtain ⟨kO, bO, eO, hO⟩ := rel_leaf l (VT.mk k b m s t a len cap kid) (VT.mk k' b' m' s' t' a' len' cap' kid')
 obtain ⟨cE, eE, eN⟩ := rel_eqs (VT.mk k b m s t a len cap kid) (VT.mk k' b' m' s' t' a' len' cap' kid')
 have HO := hide hO
 have R3 := fun w h h' => rel_any l (VT.mk k b m s t a len cap kid) (VT.mk k' b' m' s' t' a' len' cap' kid') w hx hy h h'
 have R4 := fun w h h' => rrel_any l (VT.mk k b m s t a len cap kid) (VT.mk k' b' m' s' t' a' len' cap' kid') w hx hy h h'
 have R5 := fun w h h' => rel_any [61] (VT.mk k b m s t a len cap kid) (VT.mk k' b' m' s' t' a' len' cap' kid') w hx hy h h'
 have R6 := fun w h h' => rel_any [33, 61] (VT.mk k b m s t a len cap kid) (VT.mk k' b' m' s' t' a' len' cap' kid') w hx hy h h'
 have R1 := fun w h h' => rel_any [60] (VT.mk k b m s t a len cap kid) (VT.mk k' b' m' s' t' a' len' cap' kid') w hx hy h h'
 have R2 := fun w h h' => rel_any [62, 61] (VT.mk k b m s t a len cap kid) (VT.mk k' b' m' s' t' a' len' cap' kid') w hx hy h h'
 rw [eO] at R3 R4
 rw [eE] at R5
 rw [eN] at R6
 have h1' : ¬ 20 < (len : Int) := by omega
 have h2' : ¬ 20 < (len' : Int) := by omega
 have hl' : ¬ 20 < (l.length : Int) := by omega
 have hTW := rel_two (VT.mk k b m s t a len cap kid) (VT.mk k' b' m' s' t' a' len' cap' kid')
 clear eO eE eN hO hin hin' hx hy h1 h2
 rcases hTW with ⟨bl, cl, e1, e2, e3⟩ | ⟨e1, e2⟩
 ·rw [e1] at R1
  rw [e2] at R2
  clear e1 e2
  have R1 := hide R1
  have R2 := hide R2
  have R3 := hide R3
  have R4 := hide R4
  have R5 := hide R5
  have R6 := hide R6
  go_enter Tryz.func6, Tryz.ntmps6
  obtain ⟨u0, u1, u2, u3, u4, u5, u6⟩ := id F0
  obtain ⟨v0, v1, v2, v3, v4, v5, v6⟩ := id F1
  simp only [Nat.zero_add] at u1 u2 u3 u4 u5 u6 v1 v2 v3 v4 v5 v6
  go_wp2_with fail
  refine (unhide IA _ (unhide XI)).mono ?_
  rintro e w1 ⟨rfl, k1⟩
  have b1 := bstep b0 k1
  have G0 := F0.below k1
  have G1 := F1.below k1
  have XI1 := hide ((unhide XI).below k1)
  have YI1 := hide ((unhide YI).below k1)
  clear k1 b0 F0 F1 IA XI YI u0 u1 u2 u3 u4 u5 u6 v0 v1 v2 v3 v4 v5 v6
  obtain ⟨u0, u1, u2, u3, u4, u5, u6⟩ := id G0
  obtain ⟨v0, v1, v2, v3, v4, v5, v6⟩ := id G1
  simp only [Nat.zero_add] at u1 u2 u3 u4 u5 u6 v1 v2 v3 v4 v5 v6
  go_wp2_with fail
  refine (unhide IB _ (unhide YI1)).mono ?_
  rintro e w2 ⟨rfl, k2⟩
  have b2 := bstep b1 k2
  have H0 := G0.below k2
  have H1 := G1.below k2
  have XI := hide ((unhide XI1).below k2)
  have YI := hide ((unhide YI1).below k2)
  clear k2 b1 G0 G1 IB XI1 YI1 u0 u1 u2 u3 u4 u5 u6 v0 v1 v2 v3 v4 v5 v6
  obtain ⟨u0, u1, u2, u3, u4, u5, u6⟩ := id H0
  obtain ⟨v0, v1, v2, v3, v4, v5, v6⟩ := id H1
  simp only [Nat.zero_add] at u1 u2 u3 u4 u5 u6 v1 v2 v3 v4 v5 v6
  generalize hB : w.heap.size = B at *
  have HB := hide hB
  clear hB
  go_upto_region 3 with fail
  have SK : Hid (∀ w', Below w2.heap.size w2 w' → (Below w2.heap.size w2 w' ∧ w'.cell? ⟨B, 0, none⟩ = some (.int .i64 k) ∧ w'.cell? ⟨B, 1, none⟩ = some (.bool b) ∧ w'.cell? ⟨B, 2, none⟩ = some (.int .i64 m) ∧ w'.cell? ⟨B, 3, none⟩ = some (.int .i64 s) ∧ w'.cell? ⟨B, 4, none⟩ = some (.string t) ∧ w'.cell? ⟨B, 5, none⟩ = some (.slice a len cap) ∧ w'.cell? ⟨(B + 1), 0, none⟩ = some (.int .i64 k') ∧ w'.cell? ⟨(B + 1), 1, none⟩ = some (.bool b') ∧ w'.cell? ⟨(B + 1), 2, none⟩ = some (.int .i64 m') ∧ w'.cell? ⟨(B + 1), 3, none⟩ = some (.int .i64 s') ∧ w'.cell? ⟨(B + 1), 4, none⟩ = some (.string t') ∧ w'.cell? ⟨(B + 1), 5, none⟩ = some (.slice a' len' cap'))) := hide (fun w' kk => ⟨kk, kcell kk (World.block_lt_of_cell? _ _ u1) u1, kcell kk (World.block_lt_of_cell? _ _ u2) u2, kcell kk (World.block_lt_of_cell? _ _ u3) u3, kcell kk (World.block_lt_of_cell? _ _ u4) u4, kcell kk (World.block_lt_of_cell? _ _ u5) u5, kcell kk (World.block_lt_of_cell? _ _ u6) u6, kcell kk (World.block_lt_of_cell? _ _ v1) v1, kcell kk (World.block_lt_of_cell? _ _ v2) v2, kcell kk (World.block_lt_of_cell? _ _ v3) v3, kcell kk (World.block_lt_of_cell? _ _ v4) v4, kcell kk (World.block_lt_of_cell? _ _ v5) v5, kcell kk (World.block_lt_of_cell? _ _ v6) v6⟩)
  clear H0 H1 u0 u1 u2 u3 u4 u5 u6 v0 v1 v2 v3 v4 v5 v6
  go_cut [7, 8] (fun p q wx => ∃ g h, p = .pointer (some ⟨g, 0, none⟩) ∧ q = .pointer (some ⟨h, 0, none⟩) ∧ VT.Six wx g 0 1 bl 0 0 ⟨#[]⟩ none 0 0 ∧ VT.Six wx h 0 1 cl 0 0 ⟨#[]⟩ none 0 0 ∧ Below w2.heap.size w2 wx)
  case first =>
   refine wp_region_noPanic ?_
   refine wp_region_held_drew (S := fun w' => Below w2.heap.size w2 w' ∧ w'.cell? ⟨B, 0, none⟩ = some (.int .i64 k) ∧ w'.cell? ⟨B, 1, none⟩ = some (.bool b) ∧ w'.cell? ⟨B, 2, none⟩ = some (.int .i64 m) ∧ w'.cell? ⟨B, 3, none⟩ = some (.int .i64 s) ∧ w'.cell? ⟨B, 4, none⟩ = some (.string t) ∧ w'.cell? ⟨B, 5, none⟩ = some (.slice a len cap) ∧ w'.cell? ⟨(B + 1), 0, none⟩ = some (.int .i64 k') ∧ w'.cell? ⟨(B + 1), 1, none⟩ = some (.bool b') ∧ w'.cell? ⟨(B + 1), 2, none⟩ = some (.int .i64 m') ∧ w'.cell? ⟨(B + 1), 3, none⟩ = some (.int .i64 s') ∧ w'.cell? ⟨(B + 1), 4, none⟩ = some (.string t') ∧ w'.cell? ⟨(B + 1), 5, none⟩ = some (.slice a' len' cap')) (by kernel_rfl) ?hS0a (fun hHeld => ?_)
   case hS0a => exact unhide SK _ (Below.refl _ _).drew
   have jda : Below w2.heap.size w2 w2.drew := (Below.refl _ _).drew
   have XI0a := hide ((unhide XI).below jda)
   have YI0a := hide ((unhide YI).below jda)
   clear jda
   generalize w2.drew = u0a at *
   refine takeAt 0 (some 34) ?va0x0 ⟨_, rfl, rfl, rfl, ?hya0x0⟩ (by kernel_rfl) (by kernel_rfl) (by kernel_rfl) (fun _ _ _ h => h) (by assumption) ?_
   case hya0x0 => (intro w0 hSw; (try dsimp only at hSw); go_simp; try (with_reducible rfl))
   simp only [Act.put, List.setIfInBounds_toArray, List.set_cons_zero, List.set_cons_succ]
   refine takeAt 1 (some 35) ?va1x0 ⟨_, rfl, rfl, rfl, ?hya1x0⟩ (by kernel_rfl) (by kernel_rfl) (by kernel_rfl) (fun _ _ _ h => h) (by assumption) ?_
   case hya1x0 => (intro w0 hSw; (try dsimp only at hSw); go_simp; try (with_reducible rfl))
   simp only [Act.put, List.setIfInBounds_toArray, List.set_cons_zero, List.set_cons_succ]
   refine takeAt 3 (some 37) ?va3x0 ⟨_, rfl, rfl, rfl, ?hya3x0⟩ (by kernel_rfl) (by kernel_rfl) (by kernel_rfl) (fun _ _ _ h => h) (by assumption) ?_
   case hya3x0 => (intro w0 hSw; (try dsimp only at hSw); go_simp; try (with_reducible rfl))
   simp only [Act.put, List.setIfInBounds_toArray, List.set_cons_zero, List.set_cons_succ]
   refine takeAt 4 (some 38) ?va4x0 ⟨_, rfl, rfl, rfl, ?hya4x0⟩ (by kernel_rfl) (by kernel_rfl) (by kernel_rfl) (fun _ _ _ h => h) (by assumption) ?_
   case hya4x0 => (intro w0 hSw; (try dsimp only at hSw); go_simp; try (with_reducible rfl))
   simp only [Act.put, List.setIfInBounds_toArray, List.set_cons_zero, List.set_cons_succ]
   refine wpAnyH_ready (rs := [2, 6, 7]) (by kernel_rfl) (by simp) ?_
   refine AllReadyH.cons rfl (fun K0 hK0 => ?_) (AllReadyH.cons rfl (fun K0 hK0 => ?_) (AllReadyH.cons rfl (fun K0 hK0 => ?_) AllReadyH.nil))
   ·skip
    go_simp
    refine (unhide R1 _ (unhide XI0a) (unhide YI0a)).mono ?_
    rintro e u1a ⟨rfl, j1a⟩
    unfold leaf
    dsimp only [VT.val]
    go_wp2_with fail
    refine hK0.out _ _ ?hS1a (fun hHeld1 => ?_)
    case hS1a => exact unhide SK _ (keep_call hHeld j1a)
    clear hK0 K0
    have XI1a := hide ((unhide XI0a).below j1a)
    have YI1a := hide ((unhide YI0a).below j1a)
    clear j1a
    clear hHeld XI0a YI0a
    have hHeld := hHeld1
    clear hHeld1
    try simp only [Act.put, List.setIfInBounds_toArray, List.set_cons_zero, List.set_cons_succ]
    refine wpAnyH_ready (rs := [5, 6, 7]) (by kernel_rfl) (by simp) ?_
    refine AllReadyH.cons rfl (fun K0 hK0 => ?_) (AllReadyH.cons rfl (fun K0 hK0 => ?_) (AllReadyH.cons rfl (fun K0 hK0 => ?_) AllReadyH.nil))
    ·skip
     go_simp
     refine (unhide R2 _ (unhide XI1a) (unhide YI1a)).mono ?_
     rintro e u2a ⟨rfl, j2a⟩
     unfold leaf
     dsimp only [VT.val]
     go_wp2_with fail
     refine hK0.out _ _ ?hS2a (fun hHeld1 => ?_)
     case hS2a => exact unhide SK _ (keep_call hHeld j2a)
     clear hK0 K0
     have XI2a := hide ((unhide XI1a).below j2a)
     have YI2a := hide ((unhide YI1a).below j2a)
     clear j2a
     clear hHeld XI1a YI1a
     have hHeld := hHeld1
     clear hHeld1
     try simp only [Act.put, List.setIfInBounds_toArray, List.set_cons_zero, List.set_cons_succ]
     refine wpAnyH_ready (rs := [6, 7]) (by kernel_rfl) (by simp) ?_
     refine AllReadyH.cons rfl (fun K0 hK0 => ?_) (AllReadyH.cons rfl (fun K0 hK0 => ?_) AllReadyH.nil)
     ·skip
      go_simp
      refine hK0.out _ _ ?hS3a (fun hHeld1 => ?_)
      case hS3a => exact unhide SK _ (keep_alloc hHeld _)
      clear hK0 K0
      have j3a := below1 u2a (Obj.cells #[.int .i64 0, .bool false, .int .i64 0, .int .i64 0, .string ⟨#[]⟩, .slice none 0 0] 32)
      have z3a : w2.heap.size ≤ u2a.heap.size := hHeld.1.size
      have XI3a := hide ((unhide XI2a).below j3a)
      have YI3a := hide ((unhide YI2a).below j3a)
      have o3pa := Own.new u2a 32
      generalize u2a.alloc (Obj.cells #[.int .i64 0, .bool false, .int .i64 0, .int .i64 0, .string ⟨#[]⟩, .slice none 0 0] 32) = u3a at *
      generalize u2a.heap.size = g3a at *
      clear j3a
      clear hHeld XI2a YI2a
      have hHeld := hHeld1
      clear hHeld1
      try simp only [Act.put, List.setIfInBounds_toArray, List.set_cons_zero, List.set_cons_succ]
      refine wpAnyH_ready (rs := [7]) (by kernel_rfl) (by simp) ?_
      refine AllReadyH.cons rfl (fun K0 hK0 => ?_) AllReadyH.nil
      go_simp
      refine hK0.out _ _ ?hS4a (fun hHeld1 => ?_)
      case hS4a => exact unhide SK _ (keep_alloc hHeld _)
      clear hK0 K0
      have j4a := below1 u3a (Obj.cells #[.int .i64 0, .bool false, .int .i64 0, .int .i64 0, .string ⟨#[]⟩, .slice none 0 0] 32)
      have z4a : w2.heap.size ≤ u3a.heap.size := hHeld.1.size
      have o4pa := o3pa.below j4a
      have XI4a := hide ((unhide XI3a).below j4a)
      have YI4a := hide ((unhide YI3a).below j4a)
      have o4qa := Own.new u3a 32
      have ne4pa : g3a ≠ u3a.heap.size := Nat.ne_of_lt o3pa.1.1
      generalize u3a.alloc (Obj.cells #[.int .i64 0, .bool false, .int .i64 0, .int .i64 0, .string ⟨#[]⟩, .slice none 0 0] 32) = u4a at *
      generalize u3a.heap.size = g4a at *
      clear j4a
      clear hHeld o3pa XI3a YI3a
      have hHeld := hHeld1
      clear hHeld1
      try simp only [Act.put, List.setIfInBounds_toArray, List.set_cons_zero, List.set_cons_succ]
      refine wpAnyH_ready (rs := [8]) (by kernel_rfl) (by simp) ?_
      refine AllReadyH.cons rfl (fun K0 hK0 => ?_) AllReadyH.nil
      obtain ⟨⟨-, e0, e1, e2, e3, e4, e5⟩, f0, f1, f2, f3, f4, f5⟩ := id o4pa
      simp only [Nat.zero_add] at e0 e1 e2 e3 e4 e5
      go_simp
      clear e0 e1 e2 e3 e4 e5 f0 f1 f2 f3 f4 f5
      refine hK0.out _ _ ?hS5a (fun hHeld1 => ?_)
      case hS5a => exact unhide SK _ (set6 hHeld.1 (by omega) _ _ _ _ _ _)
      clear hK0 K0
      have s5pa := Own.put o4pa 1 bl 0 0 ⟨#[]⟩ none 0 0
      have o5qa := Own.other o4qa (show g4a ≠ g3a by first | assumption | exact Ne.symm (by assumption) | (intro e; omega)) (.int .i64 1) (.bool bl) (.int .i64 0) (.int .i64 0) (.string ⟨#[]⟩) (.slice none 0 0)
      generalize ((((((u4a.setCell ⟨g3a, 0, none⟩ (.int .i64 1)).setCell ⟨g3a, 1, none⟩ (.bool bl)).setCell ⟨g3a, 2, none⟩ (.int .i64 0)).setCell ⟨g3a, 3, none⟩ (.int .i64 0)).setCell ⟨g3a, 4, none⟩ (.string ⟨#[]⟩)).setCell ⟨g3a, 5, none⟩ (.slice none 0 0)) = u5a at *
      clear hHeld o4pa o4qa XI4a YI4a
      have hHeld := hHeld1
      clear hHeld1
      try simp only [Act.put, List.setIfInBounds_toArray, List.set_cons_zero, List.set_cons_succ]
      refine wpAnyH_ready (rs := [9]) (by kernel_rfl) (by simp) ?_
      refine AllReadyH.cons rfl (fun K0 hK0 => ?_) AllReadyH.nil
      obtain ⟨⟨-, e0, e1, e2, e3, e4, e5⟩, f0, f1, f2, f3, f4, f5⟩ := id o5qa
      simp only [Nat.zero_add] at e0 e1 e2 e3 e4 e5
      go_simp
      clear e0 e1 e2 e3 e4 e5 f0 f1 f2 f3 f4 f5
      refine hK0.out _ _ ?hS6a (fun hHeld1 => ?_)
      case hS6a => exact unhide SK _ (set6 hHeld.1 (by omega) _ _ _ _ _ _)
      clear hK0 K0
      have s6qa := Own.put o5qa 1 cl 0 0 ⟨#[]⟩ none 0 0
      have s6pa := six_other s5pa (show g3a ≠ g4a by first | assumption | exact Ne.symm (by assumption) | (intro e; omega)) (.int .i64 1) (.bool cl) (.int .i64 0) (.int .i64 0) (.string ⟨#[]⟩) (.slice none 0 0)
      generalize ((((((u5a.setCell ⟨g4a, 0, none⟩ (.int .i64 1)).setCell ⟨g4a, 1, none⟩ (.bool cl)).setCell ⟨g4a, 2, none⟩ (.int .i64 0)).setCell ⟨g4a, 3, none⟩ (.int .i64 0)).setCell ⟨g4a, 4, none⟩ (.string ⟨#[]⟩)).setCell ⟨g4a, 5, none⟩ (.slice none 0 0)) = u6a at *
      clear hHeld o5qa s5pa
      have hHeld := hHeld1
      clear hHeld1
      try simp only [Act.put, List.setIfInBounds_toArray, List.set_cons_zero, List.set_cons_succ]
      refine wpAnyH_done (by kernel_rfl) ?_ _
      refine NoPanic.normal ?_
      go_wp2_with fail
      go_meet
      exact ⟨_, _, rfl, rfl, s6pa, s6qa, hHeld.1⟩
     ·skip
      go_simp
      refine hK0.out _ _ ?hS7a (fun hHeld1 => ?_)
      case hS7a => exact unhide SK _ (keep_alloc hHeld _)
      clear hK0 K0
      have j7a := below1 u2a (Obj.cells #[.int .i64 0, .bool false, .int .i64 0, .int .i64 0, .string ⟨#[]⟩, .slice none 0 0] 32)
      have z7a : w2.heap.size ≤ u2a.heap.size := hHeld.1.size
      have XI7a := hide ((unhide XI2a).below j7a)
      have YI7a := hide ((unhide YI2a).below j7a)
      have o7qa := Own.new u2a 32
      generalize u2a.alloc (Obj.cells #[.int .i64 0, .bool false, .int .i64 0, .int .i64 0, .string ⟨#[]⟩, .slice none 0 0] 32) = u7a at *
      generalize u2a.heap.size = g7a at *
      clear j7a
      clear hHeld XI2a YI2a
      have hHeld := hHeld1
      clear hHeld1
      try simp only [Act.put, List.setIfInBounds_toArray, List.set_cons_zero, List.set_cons_succ]
      refine wpAnyH_ready (rs := [6]) (by kernel_rfl) (by simp) ?_
      refine AllReadyH.cons rfl (fun K0 hK0 => ?_) AllReadyH.nil
      go_simp
      refine hK0.out _ _ ?hS8a (fun hHeld1 => ?_)
      case hS8a => exact unhide SK _ (keep_alloc hHeld _)
      clear hK0 K0
      have j8a := below1 u7a (Obj.cells #[.int .i64 0, .bool false, .int .i64 0, .int .i64 0, .string ⟨#[]⟩, .slice none 0 0] 32)
      have z8a : w2.heap.size ≤ u7a.heap.size := hHeld.1.size
      have o8qa := o7qa.below j8a
      have XI8a := hide ((unhide XI7a).below j8a)
      have YI8a := hide ((unhide YI7a).below j8a)
      have o8pa := Own.new u7a 32
      have ne8qa : g7a ≠ u7a.heap.size := Nat.ne_of_lt o7qa.1.1
      generalize u7a.alloc (Obj.cells #[.int .i64 0, .bool false, .int .i64 0, .int .i64 0, .string ⟨#[]⟩, .slice none 0 0] 32) = u8a at *
      generalize u7a.heap.size = g8a at *
      clear j8a
      clear hHeld o7qa XI7a YI7a
      have hHeld := hHeld1
      clear hHeld1
      try simp only [Act.put, List.setIfInBounds_toArray, List.set_cons_zero, List.set_cons_succ]
      refine wpAnyH_ready (rs := [8]) (by kernel_rfl) (by simp) ?_
      refine AllReadyH.cons rfl (fun K0 hK0 => ?_) AllReadyH.nil
      obtain ⟨⟨-, e0, e1, e2, e3, e4, e5⟩, f0, f1, f2, f3, f4, f5⟩ := id o8pa
      simp only [Nat.zero_add] at e0 e1 e2 e3 e4 e5
      go_simp
      clear e0 e1 e2 e3 e4 e5 f0 f1 f2 f3 f4 f5
      refine hK0.out _ _ ?hS9a (fun hHeld1 => ?_)
      case hS9a => exact unhide SK _ (set6 hHeld.1 (by omega) _ _ _ _ _ _)
      clear hK0 K0
      have s9pa := Own.put o8pa 1 bl 0 0 ⟨#[]⟩ none 0 0
      have o9qa := Own.other o8qa (show g7a ≠ g8a by first | assumption | exact Ne.symm (by assumption) | (intro e; omega)) (.int .i64 1) (.bool bl) (.int .i64 0) (.int .i64 0) (.string ⟨#[]⟩) (.slice none 0 0)
      generalize ((((((u8a.setCell ⟨g8a, 0, none⟩ (.int .i64 1)).setCell ⟨g8a, 1, none⟩ (.bool bl)).setCell ⟨g8a, 2, none⟩ (.int .i64 0)).setCell ⟨g8a, 3, none⟩ (.int .i64 0)).setCell ⟨g8a, 4, none⟩ (.string ⟨#[]⟩)).setCell ⟨g8a, 5, none⟩ (.slice none 0 0)) = u9a at *
      clear hHeld o8qa o8pa XI8a YI8a
      have hHeld := hHeld1
      clear hHeld1
      try simp only [Act.put, List.setIfInBounds_toArray, List.set_cons_zero, List.set_cons_succ]
      refine wpAnyH_ready (rs := [9]) (by kernel_rfl) (by simp) ?_
      refine AllReadyH.cons rfl (fun K0 hK0 => ?_) AllReadyH.nil
      obtain ⟨⟨-, e0, e1, e2, e3, e4, e5⟩, f0, f1, f2, f3, f4, f5⟩ := id o9qa
      simp only [Nat.zero_add] at e0 e1 e2 e3 e4 e5
      go_simp
      clear e0 e1 e2 e3 e4 e5 f0 f1 f2 f3 f4 f5
      refine hK0.out _ _ ?hS10a (fun hHeld1 => ?_)
      case hS10a => exact unhide SK _ (set6 hHeld.1 (by omega) _ _ _ _ _ _)
      clear hK0 K0
      have s10qa := Own.put o9qa 1 cl 0 0 ⟨#[]⟩ none 0 0
      have s10pa := six_other s9pa (show g8a ≠ g7a by first | assumption | exact Ne.symm (by assumption) | (intro e; omega)) (.int .i64 1) (.bool cl) (.int .i64 0) (.int .i64 0) (.string ⟨#[]⟩) (.slice none 0 0)
      generalize ((((((u9a.setCell ⟨g7a, 0, none⟩ (.int .i64 1)).setCell ⟨g7a, 1, none⟩ (.bool cl)).setCell ⟨g7a, 2, none⟩ (.int .i64 0)).setCell ⟨g7a, 3, none⟩ (.int .i64 0)).setCell ⟨g7a, 4, none⟩ (.string ⟨#[]⟩)).setCell ⟨g7a, 5, none⟩ (.slice none 0 0)) = u10a at *
      clear hHeld o9qa s9pa
      have hHeld := hHeld1
      clear hHeld1
      try simp only [Act.put, List.setIfInBounds_toArray, List.set_cons_zero, List.set_cons_succ]
      refine wpAnyH_done (by kernel_rfl) ?_ _
      refine NoPanic.normal ?_
      go_wp2_with fail
      go_meet
      exact ⟨_, _, rfl, rfl, s10pa, s10qa, hHeld.1⟩
    ·skip
     go_simp
     refine hK0.out _ _ ?hS11a (fun hHeld1 => ?_)
     case hS11a => exact unhide SK _ (keep_alloc hHeld _)
     clear hK0 K0
     have j11a := below1 u1a (Obj.cells #[.int .i64 0, .bool false, .int .i64 0, .int .i64 0, .string ⟨#[]⟩, .slice none 0 0] 32)
     have z11a : w2.heap.size ≤ u1a.heap.size := hHeld.1.size
     have XI11a := hide ((unhide XI1a).below j11a)
     have YI11a := hide ((unhide YI1a).below j11a)
     have o11pa := Own.new u1a 32
     generalize u1a.alloc (Obj.cells #[.int .i64 0, .bool false, .int .i64 0, .int .i64 0, .string ⟨#[]⟩, .slice none 0 0] 32) = u11a at *
     generalize u1a.heap.size = g11a at *
     clear j11a
     clear hHeld XI1a YI1a
     have hHeld := hHeld1
     clear hHeld1
     try simp only [Act.put, List.setIfInBounds_toArray, List.set_cons_zero, List.set_cons_succ]
     refine wpAnyH_ready (rs := [5, 7]) (by kernel_rfl) (by simp) ?_
     refine AllReadyH.cons rfl (fun K0 hK0 => ?_) (AllReadyH.cons rfl (fun K0 hK0 => ?_) AllReadyH.nil)
     ·skip
      go_simp
      refine (unhide R2 _ (unhide XI11a) (unhide YI11a)).mono ?_
      rintro e u12a ⟨rfl, j12a⟩
      unfold leaf
      dsimp only [VT.val]
      go_wp2_with fail
      refine hK0.out _ _ ?hS12a (fun hHeld1 => ?_)
      case hS12a => exact unhide SK _ (keep_call hHeld j12a)
      clear hK0 K0
      have o12pa := o11pa.below j12a
      have XI12a := hide ((unhide XI11a).below j12a)
      have YI12a := hide ((unhide YI11a).below j12a)
      clear j12a
      clear hHeld o11pa XI11a YI11a
      have hHeld := hHeld1
      clear hHeld1
      try simp only [Act.put, List.setIfInBounds_toArray, List.set_cons_zero, List.set_cons_succ]
      refine wpAnyH_ready (rs := [7]) (by kernel_rfl) (by simp) ?_
      refine AllReadyH.cons rfl (fun K0 hK0 => ?_) AllReadyH.nil
      go_simp
      refine hK0.out _ _ ?hS13a (fun hHeld1 => ?_)
      case hS13a => exact unhide SK _ (keep_alloc hHeld _)
      clear hK0 K0
      have j13a := below1 u12a (Obj.cells #[.int .i64 0, .bool false, .int .i64 0, .int .i64 0, .string ⟨#[]⟩, .slice none 0 0] 32)
      have z13a : w2.heap.size ≤ u12a.heap.size := hHeld.1.size
      have o13pa := o12pa.below j13a
      have XI13a := hide ((unhide XI12a).below j13a)
      have YI13a := hide ((unhide YI12a).below j13a)
      have o13qa := Own.new u12a 32
      have ne13pa : g11a ≠ u12a.heap.size := Nat.ne_of_lt o12pa.1.1
      generalize u12a.alloc (Obj.cells #[.int .i64 0, .bool false, .int .i64 0, .int .i64 0, .string ⟨#[]⟩, .slice none 0 0] 32) = u13a at *
      generalize u12a.heap.size = g13a at *
      clear j13a
      clear hHeld o12pa XI12a YI12a
      have hHeld := hHeld1
      clear hHeld1
      try simp only [Act.put, List.setIfInBounds_toArray, List.set_cons_zero, List.set_cons_succ]
      refine wpAnyH_ready (rs := [8]) (by kernel_rfl) (by simp) ?_
      refine AllReadyH.cons rfl (fun K0 hK0 => ?_) AllReadyH.nil
      obtain ⟨⟨-, e0, e1, e2, e3, e4, e5⟩, f0, f1, f2, f3, f4, f5⟩ := id o13pa
      simp only [Nat.zero_add] at e0 e1 e2 e3 e4 e5
      go_simp
      clear e0 e1 e2 e3 e4 e5 f0 f1 f2 f3 f4 f5
      refine hK0.out _ _ ?hS14a (fun hHeld1 => ?_)
      case hS14a => exact unhide SK _ (set6 hHeld.1 (by omega) _ _ _ _ _ _)
      clear hK0 K0
      have s14pa := Own.put o13pa 1 bl 0 0 ⟨#[]⟩ none 0 0
      have o14qa := Own.other o13qa (show g13a ≠ g11a by first | assumption | exact Ne.symm (by assumption) | (intro e; omega)) (.int .i64 1) (.bool bl) (.int .i64 0) (.int .i64 0) (.string ⟨#[]⟩) (.slice none 0 0)
      generalize ((((((u13a.setCell ⟨g11a, 0, none⟩ (.int .i64 1)).setCell ⟨g11a, 1, none⟩ (.bool bl)).setCell ⟨g11a, 2, none⟩ (.int .i64 0)).setCell ⟨g11a, 3, none⟩ (.int .i64 0)).setCell ⟨g11a, 4, none⟩ (.string ⟨#[]⟩)).setCell ⟨g11a, 5, none⟩ (.slice none 0 0)) = u14a at *
      clear hHeld o13pa o13qa XI13a YI13a
      have hHeld := hHeld1
      clear hHeld1
      try simp only [Act.put, List.setIfInBounds_toArray, List.set_cons_zero, List.set_cons_succ]
      refine wpAnyH_ready (rs := [9]) (by kernel_rfl) (by simp) ?_
      refine AllReadyH.cons rfl (fun K0 hK0 => ?_) AllReadyH.nil
      obtain ⟨⟨-, e0, e1, e2, e3, e4, e5⟩, f0, f1, f2, f3, f4, f5⟩ := id o14qa
      simp only [Nat.zero_add] at e0 e1 e2 e3 e4 e5
      go_simp
      clear e0 e1 e2 e3 e4 e5 f0 f1 f2 f3 f4 f5
      refine hK0.out _ _ ?hS15a (fun hHeld1 => ?_)
      case hS15a => exact unhide SK _ (set6 hHeld.1 (by omega) _ _ _ _ _ _)
      clear hK0 K0
      have s15qa := Own.put o14qa 1 cl 0 0 ⟨#[]⟩ none 0 0
      have s15pa := six_other s14pa (show g11a ≠ g13a by first | assumption | exact Ne.symm (by assumption) | (intro e; omega)) (.int .i64 1) (.bool cl) (.int .i64 0) (.int .i64 0) (.string ⟨#[]⟩) (.slice none 0 0)
      generalize ((((((u14a.setCell ⟨g13a, 0, none⟩ (.int .i64 1)).setCell ⟨g13a, 1, none⟩ (.bool cl)).setCell ⟨g13a, 2, none⟩ (.int .i64 0)).setCell ⟨g13a, 3, none⟩ (.int .i64 0)).setCell ⟨g13a, 4, none⟩ (.string ⟨#[]⟩)).setCell ⟨g13a, 5, none⟩ (.slice none 0 0)) = u15a at *
      clear hHeld o14qa s14pa
      have hHeld := hHeld1
      clear hHeld1
      try simp only [Act.put, List.setIfInBounds_toArray, List.set_cons_zero, List.set_cons_succ]
      refine wpAnyH_done (by kernel_rfl) ?_ _
      refine NoPanic.normal ?_
      go_wp2_with fail
      go_meet
      exact ⟨_, _, rfl, rfl, s15pa, s15qa, hHeld.1⟩
     ·skip
      go_simp
      refine hK0.out _ _ ?hS16a (fun hHeld1 => ?_)
      case hS16a => exact unhide SK _ (keep_alloc hHeld _)
      clear hK0 K0
      have j16a := below1 u11a (Obj.cells #[.int .i64 0, .bool false, .int .i64 0, .int .i64 0, .string ⟨#[]⟩, .slice none 0 0] 32)
      have z16a : w2.heap.size ≤ u11a.heap.size := hHeld.1.size
      have o16pa := o11pa.below j16a
      have XI16a := hide ((unhide XI11a).below j16a)
      have YI16a := hide ((unhide YI11a).below j16a)
      have o16qa := Own.new u11a 32
      have ne16pa : g11a ≠ u11a.heap.size := Nat.ne_of_lt o11pa.1.1
      generalize u11a.alloc (Obj.cells #[.int .i64 0, .bool false, .int .i64 0, .int .i64 0, .string ⟨#[]⟩, .slice none 0 0] 32) = u16a at *
      generalize u11a.heap.size = g16a at *
      clear j16a
      clear hHeld o11pa XI11a YI11a
      have hHeld := hHeld1
      clear hHeld1
      try simp only [Act.put, List.setIfInBounds_toArray, List.set_cons_zero, List.set_cons_succ]
      refine wpAnyH_ready (rs := [5]) (by kernel_rfl) (by simp) ?_
      refine AllReadyH.cons rfl (fun K0 hK0 => ?_) AllReadyH.nil
      go_simp
      refine (unhide R2 _ (unhide XI16a) (unhide YI16a)).mono ?_
      rintro e u17a ⟨rfl, j17a⟩
      unfold leaf
      dsimp only [VT.val]
      go_wp2_with fail
      refine hK0.out _ _ ?hS17a (fun hHeld1 => ?_)
      case hS17a => exact unhide SK _ (keep_call hHeld j17a)
      clear hK0 K0
      have o17pa := o16pa.below j17a
      have o17qa := o16qa.below j17a
      have XI17a := hide ((unhide XI16a).below j17a)
      have YI17a := hide ((unhide YI16a).below j17a)
      clear j17a
      clear hHeld o16pa o16qa XI16a YI16a
      have hHeld := hHeld1
      clear hHeld1
      try simp only [Act.put, List.setIfInBounds_toArray, List.set_cons_zero, List.set_cons_succ]
      refine wpAnyH_ready (rs := [8]) (by kernel_rfl) (by simp) ?_
      refine AllReadyH.cons rfl (fun K0 hK0 => ?_) AllReadyH.nil
      obtain ⟨⟨-, e0, e1, e2, e3, e4, e5⟩, f0, f1, f2, f3, f4, f5⟩ := id o17pa
      simp only [Nat.zero_add] at e0 e1 e2 e3 e4 e5
      go_simp
      clear e0 e1 e2 e3 e4 e5 f0 f1 f2 f3 f4 f5
      refine hK0.out _ _ ?hS18a (fun hHeld1 => ?_)
      case hS18a => exact unhide SK _ (set6 hHeld.1 (by omega) _ _ _ _ _ _)
      clear hK0 K0
      have s18pa := Own.put o17pa 1 bl 0 0 ⟨#[]⟩ none 0 0
      have o18qa := Own.other o17qa (show g16a ≠ g11a by first | assumption | exact Ne.symm (by assumption) | (intro e; omega)) (.int .i64 1) (.bool bl) (.int .i64 0) (.int .i64 0) (.string ⟨#[]⟩) (.slice none 0 0)
      generalize ((((((u17a.setCell ⟨g11a, 0, none⟩ (.int .i64 1)).setCell ⟨g11a, 1, none⟩ (.bool bl)).setCell ⟨g11a, 2, none⟩ (.int .i64 0)).setCell ⟨g11a, 3, none⟩ (.int .i64 0)).setCell ⟨g11a, 4, none⟩ (.string ⟨#[]⟩)).setCell ⟨g11a, 5, none⟩ (.slice none 0 0)) = u18a at *
      clear hHeld o17pa o17qa XI17a YI17a
      have hHeld := hHeld1
      clear hHeld1
      try simp only [Act.put, List.setIfInBounds_toArray, List.set_cons_zero, List.set_cons_succ]
      refine wpAnyH_ready (rs := [9]) (by kernel_rfl) (by simp) ?_
      refine AllReadyH.cons rfl (fun K0 hK0 => ?_) AllReadyH.nil
      obtain ⟨⟨-, e0, e1, e2, e3, e4, e5⟩, f0, f1, f2, f3, f4, f5⟩ := id o18qa
      simp only [Nat.zero_add] at e0 e1 e2 e3 e4 e5
      go_simp
      clear e0 e1 e2 e3 e4 e5 f0 f1 f2 f3 f4 f5
      refine hK0.out _ _ ?hS19a (fun hHeld1 => ?_)
      case hS19a => exact unhide SK _ (set6 hHeld.1 (by omega) _ _ _ _ _ _)
      clear hK0 K0
      have s19qa := Own.put o18qa 1 cl 0 0 ⟨#[]⟩ none 0 0
      have s19pa := six_other s18pa (show g11a ≠ g16a by first | assumption | exact Ne.symm (by assumption) | (intro e; omega)) (.int .i64 1) (.bool cl) (.int .i64 0) (.int .i64 0) (.string ⟨#[]⟩) (.slice none 0 0)
      generalize ((((((u18a.setCell ⟨g16a, 0, none⟩ (.int .i64 1)).setCell ⟨g16a, 1, none⟩ (.bool cl)).setCell ⟨g16a, 2, none⟩ (.int .i64 0)).setCell ⟨g16a, 3, none⟩ (.int .i64 0)).setCell ⟨g16a, 4, none⟩ (.string ⟨#[]⟩)).setCell ⟨g16a, 5, none⟩ (.slice none 0 0)) = u19a at *
      clear hHeld o18qa s18pa
      have hHeld := hHeld1
      clear hHeld1
      try simp only [Act.put, List.setIfInBounds_toArray, List.set_cons_zero, List.set_cons_succ]
      refine wpAnyH_done (by kernel_rfl) ?_ _
      refine NoPanic.normal ?_
      go_wp2_with fail
      go_meet
      exact ⟨_, _, rfl, rfl, s19pa, s19qa, hHeld.1⟩
    ·skip
     go_simp
     refine hK0.out _ _ ?hS20a (fun hHeld1 => ?_)
     case hS20a => exact unhide SK _ (keep_alloc hHeld _)
     clear hK0 K0
     have j20a := below1 u1a (Obj.cells #[.int .i64 0, .bool false, .int .i64 0, .int .i64 0, .string ⟨#[]⟩, .slice none 0 0] 32)
     have z20a : w2.heap.size ≤ u1a.heap.size := hHeld.1.size
     have XI20a := hide ((unhide XI1a).below j20a)
     have YI20a := hide ((unhide YI1a).below j20a)
     have o20qa := Own.new u1a 32
     generalize u1a.alloc (Obj.cells #[.int .i64 0, .bool false, .int .i64 0, .int .i64 0, .string ⟨#[]⟩, .slice none 0 0] 32) = u20a at *
     generalize u1a.heap.size = g20a at *
     clear j20a
     clear hHeld XI1a YI1a
     have hHeld := hHeld1
     clear hHeld1
     try simp only [Act.put, List.setIfInBounds_toArray, List.set_cons_zero, List.set_cons_succ]
     refine wpAnyH_ready (rs := [5, 6]) (by kernel_rfl) (by simp) ?_
     refine AllReadyH.cons rfl (fun K0 hK0 => ?_) (AllReadyH.cons rfl (fun K0 hK0 => ?_) AllReadyH.nil)
     ·skip
      go_simp
      refine (unhide R2 _ (unhide XI20a) (unhide YI20a)).mono ?_
      rintro e u21a ⟨rfl, j21a⟩
      unfold leaf
      dsimp only [VT.val]
      go_wp2_with fail
      refine hK0.out _ _ ?hS21a (fun hHeld1 => ?_)
      case hS21a => exact unhide SK _ (keep_call hHeld j21a)
      clear hK0 K0
      have o21qa := o20qa.below j21a
      have XI21a := hide ((unhide XI20a).below j21a)
      have YI21a := hide ((unhide YI20a).below j21a)
      clear j21a
      clear hHeld o20qa XI20a YI20a
      have hHeld := hHeld1
      clear hHeld1
      try simp only [Act.put, List.setIfInBounds_toArray, List.set_cons_zero, List.set_cons_succ]
      refine wpAnyH_ready (rs := [6]) (by kernel_rfl) (by simp) ?_
      refine AllReadyH.cons rfl (fun K0 hK0 => ?_) AllReadyH.nil
      go_simp
      refine hK0.out _ _ ?hS22a (fun hHeld1 => ?_)
      case hS22a => exact unhide SK _ (keep_alloc hHeld _)
      clear hK0 K0
      have j22a := below1 u21a (Obj.cells #[.int .i64 0, .bool false, .int .i64 0, .int .i64 0, .string ⟨#[]⟩, .slice none 0 0] 32)
      have z22a : w2.heap.size ≤ u21a.heap.size := hHeld.1.size
      have o22qa := o21qa.below j22a
      have XI22a := hide ((unhide XI21a).below j22a)
      have YI22a := hide ((unhide YI21a).below j22a)
      have o22pa := Own.new u21a 32
      have ne22qa : g20a ≠ u21a.heap.size := Nat.ne_of_lt o21qa.1.1
      generalize u21a.alloc (Obj.cells #[.int .i64 0, .bool false, .int .i64 0, .int .i64 0, .string ⟨#[]⟩, .slice none 0 0] 32) = u22a at *
      generalize u21a.heap.size = g22a at *
      clear j22a
      clear hHeld o21qa XI21a YI21a
      have hHeld := hHeld1
      clear hHeld1
      try simp only [Act.put, List.setIfInBounds_toArray, List.set_cons_zero, List.set_cons_succ]
      refine wpAnyH_ready (rs := [8]) (by kernel_rfl) (by simp) ?_
      refine AllReadyH.cons rfl (fun K0 hK0 => ?_) AllReadyH.nil
      obtain ⟨⟨-, e0, e1, e2, e3, e4, e5⟩, f0, f1, f2, f3, f4, f5⟩ := id o22pa
      simp only [Nat.zero_add] at e0 e1 e2 e3 e4 e5
      go_simp
      clear e0 e1 e2 e3 e4 e5 f0 f1 f2 f3 f4 f5
      refine hK0.out _ _ ?hS23a (fun hHeld1 => ?_)
      case hS23a => exact unhide SK _ (set6 hHeld.1 (by omega) _ _ _ _ _ _)
      clear hK0 K0
      have s23pa := Own.put o22pa 1 bl 0 0 ⟨#[]⟩ none 0 0
      have o23qa := Own.other o22qa (show g20a ≠ g22a by first | assumption | exact Ne.symm (by assumption) | (intro e; omega)) (.int .i64 1) (.bool bl) (.int .i64 0) (.int .i64 0) (.string ⟨#[]⟩) (.slice none 0 0)
      generalize ((((((u22a.setCell ⟨g22a, 0, none⟩ (.int .i64 1)).setCell ⟨g22a, 1, none⟩ (.bool bl)).setCell ⟨g22a, 2, none⟩ (.int .i64 0)).setCell ⟨g22a, 3, none⟩ (.int .i64 0)).setCell ⟨g22a, 4, none⟩ (.string ⟨#[]⟩)).setCell ⟨g22a, 5, none⟩ (.slice none 0 0)) = u23a at *
      clear hHeld o22qa o22pa XI22a YI22a
      have hHeld := hHeld1
      clear hHeld1
      try simp only [Act.put, List.setIfInBounds_toArray, List.set_cons_zero, List.set_cons_succ]
      refine wpAnyH_ready (rs := [9]) (by kernel_rfl) (by simp) ?_
      refine AllReadyH.cons rfl (fun K0 hK0 => ?_) AllReadyH.nil
      obtain ⟨⟨-, e0, e1, e2, e3, e4, e5⟩, f0, f1, f2, f3, f4, f5⟩ := id o23qa
      simp only [Nat.zero_add] at e0 e1 e2 e3 e4 e5
      go_simp
      clear e0 e1 e2 e3 e4 e5 f0 f1 f2 f3 f4 f5
      refine hK0.out _ _ ?hS24a (fun hHeld1 => ?_)
      case hS24a => exact unhide SK _ (set6 hHeld.1 (by omega) _ _ _ _ _ _)
      clear hK0 K0
      have s24qa := Own.put o23qa 1 cl 0 0 ⟨#[]⟩ none 0 0
      have s24pa := six_other s23pa (show g22a ≠ g20a by first | assumption | exact Ne.symm (by assumption) | (intro e; omega)) (.int .i64 1) (.bool cl) (.int .i64 0) (.int .i64 0) (.string ⟨#[]⟩) (.slice none 0 0)
      generalize ((((((u23a.setCell ⟨g20a, 0, none⟩ (.int .i64 1)).setCell ⟨g20a, 1, none⟩ (.bool cl)).setCell ⟨g20a, 2, none⟩ (.int .i64 0)).setCell ⟨g20a, 3, none⟩ (.int .i64 0)).setCell ⟨g20a, 4, none⟩ (.string ⟨#[]⟩)).setCell ⟨g20a, 5, none⟩ (.slice none 0 0)) = u24a at *
      clear hHeld o23qa s23pa
      have hHeld := hHeld1
      clear hHeld1
      try simp only [Act.put, List.setIfInBounds_toArray, List.set_cons_zero, List.set_cons_succ]
      refine wpAnyH_done (by kernel_rfl) ?_ _
      refine NoPanic.normal ?_
      go_wp2_with fail
      go_meet
      exact ⟨_, _, rfl, rfl, s24pa, s24qa, hHeld.1⟩
     ·skip
      go_simp
      refine hK0.out _ _ ?hS25a (fun hHeld1 => ?_)
      case hS25a => exact unhide SK _ (keep_alloc hHeld _)
      clear hK0 K0
      have j25a := below1 u20a (Obj.cells #[.int .i64 0, .bool false, .int .i64 0, .int .i64 0, .string ⟨#[]⟩, .slice none 0 0] 32)
      have z25a : w2.heap.size ≤ u20a.heap.size := hHeld.1.size
      have o25qa := o20qa.below j25a
      have XI25a := hide ((unhide XI20a).below j25a)
      have YI25a := hide ((unhide YI20a).below j25a)
      have o25pa := Own.new u20a 32
      have ne25qa : g20a ≠ u20a.heap.size := Nat.ne_of_lt o20qa.1.1
      generalize u20a.alloc (Obj.cells #[.int .i64 0, .bool false, .int .i64 0, .int .i64 0, .string ⟨#[]⟩, .slice none 0 0] 32) = u25a at *
      generalize u20a.heap.size = g25a at *
      clear j25a
      clear hHeld o20qa XI20a YI20a
      have hHeld := hHeld1
      clear hHeld1
      try simp only [Act.put, List.setIfInBounds_toArray, List.set_cons_zero, List.set_cons_succ]
      refine wpAnyH_ready (rs := [5]) (by kernel_rfl) (by simp) ?_
      refine AllReadyH.cons rfl (fun K0 hK0 => ?_) AllReadyH.nil
      go_simp
      refine (unhide R2 _ (unhide XI25a) (unhide YI25a)).mono ?_
      rintro e u26a ⟨rfl, j26a⟩
      unfold leaf
      dsimp only [VT.val]
      go_wp2_with fail
      refine hK0.out _ _ ?hS26a (fun hHeld1 => ?_)
      case hS26a => exact unhide SK _ (keep_call hHeld j26a)
      clear hK0 K0
      have o26qa := o25qa.below j26a
      have o26pa := o25pa.below j26a
      have XI26a := hide ((unhide XI25a).below j26a)
      have YI26a := hide ((unhide YI25a).below j26a)
      clear j26a
      clear hHeld o25qa o25pa XI25a YI25a
      have hHeld := hHeld1
      clear hHeld1
      try simp only [Act.put, List.setIfInBounds_toArray, List.set_cons_zero, List.set_cons_succ]
      refine wpAnyH_ready (rs := [8]) (by kernel_rfl) (by simp) ?_
      refine AllReadyH.cons rfl (fun K0 hK0 => ?_) AllReadyH.nil
      obtain ⟨⟨-, e0, e1, e2, e3, e4, e5⟩, f0, f1, f2, f3, f4, f5⟩ := id o26pa
      simp only [Nat.zero_add] at e0 e1 e2 e3 e4 e5
      go_simp
      clear e0 e1 e2 e3 e4 e5 f0 f1 f2 f3 f4 f5
      refine hK0.out _ _ ?hS27a (fun hHeld1 => ?_)
      case hS27a => exact unhide SK _ (set6 hHeld.1 (by omega) _ _ _ _ _ _)
      clear hK0 K0
      have s27pa := Own.put o26pa 1 bl 0 0 ⟨#[]⟩ none 0 0
      have o27qa := Own.other o26qa (show g20a ≠ g25a by first | assumption | exact Ne.symm (by assumption) | (intro e; omega)) (.int .i64 1) (.bool bl) (.int .i64 0) (.int .i64 0) (.string ⟨#[]⟩) (.slice none 0 0)
      generalize ((((((u26a.setCell ⟨g25a, 0, none⟩ (.int .i64 1)).setCell ⟨g25a, 1, none⟩ (.bool bl)).setCell ⟨g25a, 2, none⟩ (.int .i64 0)).setCell ⟨g25a, 3, none⟩ (.int .i64 0)).setCell ⟨g25a, 4, none⟩ (.string ⟨#[]⟩)).setCell ⟨g25a, 5, none⟩ (.slice none 0 0)) = u27a at *
      clear hHeld o26qa o26pa XI26a YI26a
      have hHeld := hHeld1
      clear hHeld1
      try simp only [Act.put, List.setIfInBounds_toArray, List.set_cons_zero, List.set_cons_succ]
      refine wpAnyH_ready (rs := [9]) (by kernel_rfl) (by simp) ?_
      refine AllReadyH.cons rfl (fun K0 hK0 => ?_) AllReadyH.nil
      obtain ⟨⟨-, e0, e1, e2, e3, e4, e5⟩, f0, f1, f2, f3, f4, f5⟩ := id o27qa
      simp only [Nat.zero_add] at e0 e1 e2 e3 e4 e5
      go_simp
      clear e0 e1 e2 e3 e4 e5 f0 f1 f2 f3 f4 f5
      refine hK0.out _ _ ?hS28a (fun hHeld1 => ?_)
      case hS28a => exact unhide SK _ (set6 hHeld.1 (by omega) _ _ _ _ _ _)
      clear hK0 K0
      have s28qa := Own.put o27qa 1 cl 0 0 ⟨#[]⟩ none 0 0
      have s28pa := six_other s27pa (show g25a ≠ g20a by first | assumption | exact Ne.symm (by assumption) | (intro e; omega)) (.int .i64 1) (.bool cl) (.int .i64 0) (.int .i64 0) (.string ⟨#[]⟩) (.slice none 0 0)
      generalize ((((((u27a.setCell ⟨g20a, 0, none⟩ (.int .i64 1)).setCell ⟨g20a, 1, none⟩ (.bool cl)).setCell ⟨g20a, 2, none⟩ (.int .i64 0)).setCell ⟨g20a, 3, none⟩ (.int .i64 0)).setCell ⟨g20a, 4, none⟩ (.string ⟨#[]⟩)).setCell ⟨g20a, 5, none⟩ (.slice none 0 0)) = u28a at *
      clear hHeld o27qa s27pa
      have hHeld := hHeld1
      clear hHeld1
      try simp only [Act.put, List.setIfInBounds_toArray, List.set_cons_zero, List.set_cons_succ]
      refine wpAnyH_done (by kernel_rfl) ?_ _
      refine NoPanic.normal ?_
      go_wp2_with fail
      go_meet
      exact ⟨_, _, rfl, rfl, s28pa, s28qa, hHeld.1⟩
   ·skip
    go_simp
    refine hK0.out _ _ ?hS29a (fun hHeld1 => ?_)
    case hS29a => exact unhide SK _ (keep_alloc hHeld _)
    clear hK0 K0
    have j29a := below1 u0a (Obj.cells #[.int .i64 0, .bool false, .int .i64 0, .int .i64 0, .string ⟨#[]⟩, .slice none 0 0] 32)
    have z29a : w2.heap.size ≤ u0a.heap.size := hHeld.1.size
    have XI29a := hide ((unhide XI0a).below j29a)
    have YI29a := hide ((unhide YI0a).below j29a)
    have o29pa := Own.new u0a 32
    generalize u0a.alloc (Obj.cells #[.int .i64 0, .bool false, .int .i64 0, .int .i64 0, .string ⟨#[]⟩, .slice none 0 0] 32) = u29a at *
    generalize u0a.heap.size = g29a at *
    clear j29a
    clear hHeld XI0a YI0a
    have hHeld := hHeld1
    clear hHeld1
    try simp only [Act.put, List.setIfInBounds_toArray, List.set_cons_zero, List.set_cons_succ]
    refine wpAnyH_ready (rs := [2, 7]) (by kernel_rfl) (by simp) ?_
    refine AllReadyH.cons rfl (fun K0 hK0 => ?_) (AllReadyH.cons rfl (fun K0 hK0 => ?_) AllReadyH.nil)
    ·skip
     go_simp
     refine (unhide R1 _ (unhide XI29a) (unhide YI29a)).mono ?_
     rintro e u30a ⟨rfl, j30a⟩
     unfold leaf
     dsimp only [VT.val]
     go_wp2_with fail
     refine hK0.out _ _ ?hS30a (fun hHeld1 => ?_)
     case hS30a => exact unhide SK _ (keep_call hHeld j30a)
     clear hK0 K0
     have o30pa := o29pa.below j30a
     have XI30a := hide ((unhide XI29a).below j30a)
     have YI30a := hide ((unhide YI29a).below j30a)
     clear j30a
     clear hHeld o29pa XI29a YI29a
     have hHeld := hHeld1
     clear hHeld1
     try simp only [Act.put, List.setIfInBounds_toArray, List.set_cons_zero, List.set_cons_succ]
     refine wpAnyH_ready (rs := [5, 7]) (by kernel_rfl) (by simp) ?_
     refine AllReadyH.cons rfl (fun K0 hK0 => ?_) (AllReadyH.cons rfl (fun K0 hK0 => ?_) AllReadyH.nil)
     ·skip
      go_simp
      refine (unhide R2 _ (unhide XI30a) (unhide YI30a)).mono ?_
      rintro e u31a ⟨rfl, j31a⟩
      unfold leaf
      dsimp only [VT.val]
      go_wp2_with fail
      refine hK0.out _ _ ?hS31a (fun hHeld1 => ?_)
      case hS31a => exact unhide SK _ (keep_call hHeld j31a)
      clear hK0 K0
      have o31pa := o30pa.below j31a
      have XI31a := hide ((unhide XI30a).below j31a)
      have YI31a := hide ((unhide YI30a).below j31a)
      clear j31a
      clear hHeld o30pa XI30a YI30a
      have hHeld := hHeld1
      clear hHeld1
      try simp only [Act.put, List.setIfInBounds_toArray, List.set_cons_zero, List.set_cons_succ]
      refine wpAnyH_ready (rs := [7]) (by kernel_rfl) (by simp) ?_
      refine AllReadyH.cons rfl (fun K0 hK0 => ?_) AllReadyH.nil
      go_simp
      refine hK0.out _ _ ?hS32a (fun hHeld1 => ?_)
      case hS32a => exact unhide SK _ (keep_alloc hHeld _)
      clear hK0 K0
      have j32a := below1 u31a (Obj.cells #[.int .i64 0, .bool false, .int .i64 0, .int .i64 0, .string ⟨#[]⟩, .slice none 0 0] 32)
      have z32a : w2.heap.size ≤ u31a.heap.size := hHeld.1.size
      have o32pa := o31pa.below j32a
      have XI32a := hide ((unhide XI31a).below j32a)
      have YI32a := hide ((unhide YI31a).below j32a)
      have o32qa := Own.new u31a 32
      have ne32pa : g29a ≠ u31a.heap.size := Nat.ne_of_lt o31pa.1.1
      generalize u31a.alloc (Obj.cells #[.int .i64 0, .bool false, .int .i64 0, .int .i64 0, .string ⟨#[]⟩, .slice none 0 0] 32) = u32a at *
      generalize u31a.heap.size = g32a at *
      clear j32a
      clear hHeld o31pa XI31a YI31a
      have hHeld := hHeld1
      clear hHeld1
      try simp only [Act.put, List.setIfInBounds_toArray, List.set_cons_zero, List.set_cons_succ]
      refine wpAnyH_ready (rs := [8]) (by kernel_rfl) (by simp) ?_
      refine AllReadyH.cons rfl (fun K0 hK0 => ?_) AllReadyH.nil
      obtain ⟨⟨-, e0, e1, e2, e3, e4, e5⟩, f0, f1, f2, f3, f4, f5⟩ := id o32pa
      simp only [Nat.zero_add] at e0 e1 e2 e3 e4 e5
      go_simp
      clear e0 e1 e2 e3 e4 e5 f0 f1 f2 f3 f4 f5
      refine hK0.out _ _ ?hS33a (fun hHeld1 => ?_)
      case hS33a => exact unhide SK _ (set6 hHeld.1 (by omega) _ _ _ _ _ _)
      clear hK0 K0
      have s33pa := Own.put o32pa 1 bl 0 0 ⟨#[]⟩ none 0 0
      have o33qa := Own.other o32qa (show g32a ≠ g29a by first | assumption | exact Ne.symm (by assumption) | (intro e; omega)) (.int .i64 1) (.bool bl) (.int .i64 0) (.int .i64 0) (.string ⟨#[]⟩) (.slice none 0 0)
      generalize ((((((u32a.setCell ⟨g29a, 0, none⟩ (.int .i64 1)).setCell ⟨g29a, 1, none⟩ (.bool bl)).setCell ⟨g29a, 2, none⟩ (.int .i64 0)).setCell ⟨g29a, 3, none⟩ (.int .i64 0)).setCell ⟨g29a, 4, none⟩ (.string ⟨#[]⟩)).setCell ⟨g29a, 5, none⟩ (.slice none 0 0)) = u33a at *
      clear hHeld o32pa o32qa XI32a YI32a
      have hHeld := hHeld1
      clear hHeld1
      try simp only [Act.put, List.setIfInBounds_toArray, List.set_cons_zero, List.set_cons_succ]
      refine wpAnyH_ready (rs := [9]) (by kernel_rfl) (by simp) ?_
      refine AllReadyH.cons rfl (fun K0 hK0 => ?_) AllReadyH.nil
      obtain ⟨⟨-, e0, e1, e2, e3, e4, e5⟩, f0, f1, f2, f3, f4, f5⟩ := id o33qa
      simp only [Nat.zero_add] at e0 e1 e2 e3 e4 e5
      go_simp
      clear e0 e1 e2 e3 e4 e5 f0 f1 f2 f3 f4 f5
      refine hK0.out _ _ ?hS34a (fun hHeld1 => ?_)
      case hS34a => exact unhide SK _ (set6 hHeld.1 (by omega) _ _ _ _ _ _)
      clear hK0 K0
      have s34qa := Own.put o33qa 1 cl 0 0 ⟨#[]⟩ none 0 0
      have s34pa := six_other s33pa (show g29a ≠ g32a by first | assumption | exact Ne.symm (by assumption) | (intro e; omega)) (.int .i64 1) (.bool cl) (.int .i64 0) (.int .i64 0) (.string ⟨#[]⟩) (.slice none 0 0)
      generalize ((((((u33a.setCell ⟨g32a, 0, none⟩ (.int .i64 1)).setCell ⟨g32a, 1, none⟩ (.bool cl)).setCell ⟨g32a, 2, none⟩ (.int .i64 0)).setCell ⟨g32a, 3, none⟩ (.int .i64 0)).setCell ⟨g32a, 4, none⟩ (.string ⟨#[]⟩)).setCell ⟨g32a, 5, none⟩ (.slice none 0 0)) = u34a at *
      clear hHeld o33qa s33pa
      have hHeld := hHeld1
      clear hHeld1
      try simp only [Act.put, List.setIfInBounds_toArray, List.set_cons_zero, List.set_cons_succ]
      refine wpAnyH_done (by kernel_rfl) ?_ _
      refine NoPanic.normal ?_
      go_wp2_with fail
      go_meet
      exact ⟨_, _, rfl, rfl, s34pa, s34qa, hHeld.1⟩
     ·skip
      go_simp
      refine hK0.out _ _ ?hS35a (fun hHeld1 => ?_)
      case hS35a => exact unhide SK _ (keep_alloc hHeld _)
      clear hK0 K0
      have j35a := below1 u30a (Obj.cells #[.int .i64 0, .bool false, .int .i64 0, .int .i64 0, .string ⟨#[]⟩, .slice none 0 0] 32)
      have z35a : w2.heap.size ≤ u30a.heap.size := hHeld.1.size
      have o35pa := o30pa.below j35a
      have XI35a := hide ((unhide XI30a).below j35a)
      have YI35a := hide ((unhide YI30a).below j35a)
      have o35qa := Own.new u30a 32
      have ne35pa : g29a ≠ u30a.heap.size := Nat.ne_of_lt o30pa.1.1
      generalize u30a.alloc (Obj.cells #[.int .i64 0, .bool false, .int .i64 0, .int .i64 0, .string ⟨#[]⟩, .slice none 0 0] 32) = u35a at *
      generalize u30a.heap.size = g35a at *
      clear j35a
      clear hHeld o30pa XI30a YI30a
      have hHeld := hHeld1
      clear hHeld1
      try simp only [Act.put, List.setIfInBounds_toArray, List.set_cons_zero, List.set_cons_succ]
      refine wpAnyH_ready (rs := [5]) (by kernel_rfl) (by simp) ?_
      refine AllReadyH.cons rfl (fun K0 hK0 => ?_) AllReadyH.nil
      go_simp
      refine (unhide R2 _ (unhide XI35a) (unhide YI35a)).mono ?_
      rintro e u36a ⟨rfl, j36a⟩
      unfold leaf
      dsimp only [VT.val]
      go_wp2_with fail
      refine hK0.out _ _ ?hS36a (fun hHeld1 => ?_)
      case hS36a => exact unhide SK _ (keep_call hHeld j36a)
      clear hK0 K0
      have o36pa := o35pa.below j36a
      have o36qa := o35qa.below j36a
      have XI36a := hide ((unhide XI35a).below j36a)
      have YI36a := hide ((unhide YI35a).below j36a)
      clear j36a
      clear hHeld o35pa o35qa XI35a YI35a
      have hHeld := hHeld1
      clear hHeld1
      try simp only [Act.put, List.setIfInBounds_toArray, List.set_cons_zero, List.set_cons_succ]
      refine wpAnyH_ready (rs := [8]) (by kernel_rfl) (by simp) ?_
      refine AllReadyH.cons rfl (fun K0 hK0 => ?_) AllReadyH.nil
      obtain ⟨⟨-, e0, e1, e2, e3, e4, e5⟩, f0, f1, f2, f3, f4, f5⟩ := id o36pa
      simp only [Nat.zero_add] at e0 e1 e2 e3 e4 e5
      go_simp
      clear e0 e1 e2 e3 e4 e5 f0 f1 f2 f3 f4 f5
      refine hK0.out _ _ ?hS37a (fun hHeld1 => ?_)
      case hS37a => exact unhide SK _ (set6 hHeld.1 (by omega) _ _ _ _ _ _)
      clear hK0 K0
      have s37pa := Own.put o36pa 1 bl 0 0 ⟨#[]⟩ none 0 0
      have o37qa := Own.other o36qa (show g35a ≠ g29a by first | assumption | exact Ne.symm (by assumption) | (intro e; omega)) (.int .i64 1) (.bool bl) (.int .i64 0) (.int .i64 0) (.string ⟨#[]⟩) (.slice none 0 0)
      generalize ((((((u36a.setCell ⟨g29a, 0, none⟩ (.int .i64 1)).setCell ⟨g29a, 1, none⟩ (.bool bl)).setCell ⟨g29a, 2, none⟩ (.int .i64 0)).setCell ⟨g29a, 3, none⟩ (.int .i64 0)).setCell ⟨g29a, 4, none⟩ (.string ⟨#[]⟩)).setCell ⟨g29a, 5, none⟩ (.slice none 0 0)) = u37a at *
      clear hHeld o36pa o36qa XI36a YI36a
      have hHeld := hHeld1
      clear hHeld1
      try simp only [Act.put, List.setIfInBounds_toArray, List.set_cons_zero, List.set_cons_succ]
      refine wpAnyH_ready (rs := [9]) (by kernel_rfl) (by simp) ?_
      refine AllReadyH.cons rfl (fun K0 hK0 => ?_) AllReadyH.nil
      obtain ⟨⟨-, e0, e1, e2, e3, e4, e5⟩, f0, f1, f2, f3, f4, f5⟩ := id o37qa
      simp only [Nat.zero_add] at e0 e1 e2 e3 e4 e5
      go_simp
      clear e0 e1 e2 e3 e4 e5 f0 f1 f2 f3 f4 f5
      refine hK0.out _ _ ?hS38a (fun hHeld1 => ?_)
      case hS38a => exact unhide SK _ (set6 hHeld.1 (by omega) _ _ _ _ _ _)
      clear hK0 K0
      have s38qa := Own.put o37qa 1 cl 0 0 ⟨#[]⟩ none 0 0
      have s38pa := six_other s37pa (show g29a ≠ g35a by first | assumption | exact Ne.symm (by assumption) | (intro e; omega)) (.int .i64 1) (.bool cl) (.int .i64 0) (.int .i64 0) (.string ⟨#[]⟩) (.slice none 0 0)
      generalize ((((((u37a.setCell ⟨g35a, 0, none⟩ (.int .i64 1)).setCell ⟨g35a, 1, none⟩ (.bool cl)).setCell ⟨g35a, 2, none⟩ (.int .i64 0)).setCell ⟨g35a, 3, none⟩ (.int .i64 0)).setCell ⟨g35a, 4, none⟩ (.string ⟨#[]⟩)).setCell ⟨g35a, 5, none⟩ (.slice none 0 0)) = u38a at *
      clear hHeld o37qa s37pa
      have hHeld := hHeld1
      clear hHeld1
      try simp only [Act.put, List.setIfInBounds_toArray, List.set_cons_zero, List.set_cons_succ]
      refine wpAnyH_done (by kernel_rfl) ?_ _
      refine NoPanic.normal ?_
      go_wp2_with fail
      go_meet
      exact ⟨_, _, rfl, rfl, s38pa, s38qa, hHeld.1⟩
    ·skip
     go_simp
     refine hK0.out _ _ ?hS39a (fun hHeld1 => ?_)
     case hS39a => exact unhide SK _ (keep_alloc hHeld _)
     clear hK0 K0
     have j39a := below1 u29a (Obj.cells #[.int .i64 0, .bool false, .int .i64 0, .int .i64 0, .string ⟨#[]⟩, .slice none 0 0] 32)
     have z39a : w2.heap.size ≤ u29a.heap.size := hHeld.1.size
     have o39pa := o29pa.below j39a
     have XI39a := hide ((unhide XI29a).below j39a)
     have YI39a := hide ((unhide YI29a).below j39a)
     have o39qa := Own.new u29a 32
     have ne39pa : g29a ≠ u29a.heap.size := Nat.ne_of_lt o29pa.1.1
     generalize u29a.alloc (Obj.cells #[.int .i64 0, .bool false, .int .i64 0, .int .i64 0, .string ⟨#[]⟩, .slice none 0 0] 32) = u39a at *
     generalize u29a.heap.size = g39a at *
     clear j39a
     clear hHeld o29pa XI29a YI29a
     have hHeld := hHeld1
     clear hHeld1
     try simp only [Act.put, List.setIfInBounds_toArray, List.set_cons_zero, List.set_cons_succ]
     refine wpAnyH_ready (rs := [2]) (by kernel_rfl) (by simp) ?_
     refine AllReadyH.cons rfl (fun K0 hK0 => ?_) AllReadyH.nil
     go_simp
     refine (unhide R1 _ (unhide XI39a) (unhide YI39a)).mono ?_
     rintro e u40a ⟨rfl, j40a⟩
     unfold leaf
     dsimp only [VT.val]
     go_wp2_with fail
     refine hK0.out _ _ ?hS40a (fun hHeld1 => ?_)
     case hS40a => exact unhide SK _ (keep_call hHeld j40a)
     clear hK0 K0
     have o40pa := o39pa.below j40a
     have o40qa := o39qa.below j40a
     have XI40a := hide ((unhide XI39a).below j40a)
     have YI40a := hide ((unhide YI39a).below j40a)
     clear j40a
     clear hHeld o39pa o39qa XI39a YI39a
     have hHeld := hHeld1
     clear hHeld1
     try simp only [Act.put, List.setIfInBounds_toArray, List.set_cons_zero, List.set_cons_succ]
     refine wpAnyH_ready (rs := [5]) (by kernel_rfl) (by simp) ?_
     refine AllReadyH.cons rfl (fun K0 hK0 => ?_) AllReadyH.nil
     go_simp
     refine (unhide R2 _ (unhide XI40a) (unhide YI40a)).mono ?_
     rintro e u41a ⟨rfl, j41a⟩
     unfold leaf
     dsimp only [VT.val]
     go_wp2_with fail
     refine hK0.out _ _ ?hS41a (fun hHeld1 => ?_)
     case hS41a => exact unhide SK _ (keep_call hHeld j41a)
     clear hK0 K0
     have o41pa := o40pa.below j41a
     have o41qa := o40qa.below j41a
     have XI41a := hide ((unhide XI40a).below j41a)
     have YI41a := hide ((unhide YI40a).below j41a)
     clear j41a
     clear hHeld o40pa o40qa XI40a YI40a
     have hHeld := hHeld1
     clear hHeld1
     try simp only [Act.put, List.setIfInBounds_toArray, List.set_cons_zero, List.set_cons_succ]
     refine wpAnyH_ready (rs := [8]) (by kernel_rfl) (by simp) ?_
     refine AllReadyH.cons rfl (fun K0 hK0 => ?_) AllReadyH.nil
     obtain ⟨⟨-, e0, e1, e2, e3, e4, e5⟩, f0, f1, f2, f3, f4, f5⟩ := id o41pa
     simp only [Nat.zero_add] at e0 e1 e2 e3 e4 e5
     go_simp
     clear e0 e1 e2 e3 e4 e5 f0 f1 f2 f3 f4 f5
     refine hK0.out _ _ ?hS42a (fun hHeld1 => ?_)
     case hS42a => exact unhide SK _ (set6 hHeld.1 (by omega) _ _ _ _ _ _)
     clear hK0 K0
     have s42pa := Own.put o41pa 1 bl 0 0 ⟨#[]⟩ none 0 0
     have o42qa := Own.other o41qa (show g39a ≠ g29a by first | assumption | exact Ne.symm (by assumption) | (intro e; omega)) (.int .i64 1) (.bool bl) (.int .i64 0) (.int .i64 0) (.string ⟨#[]⟩) (.slice none 0 0)
     generalize ((((((u41a.setCell ⟨g29a, 0, none⟩ (.int .i64 1)).setCell ⟨g29a, 1, none⟩ (.bool bl)).setCell ⟨g29a, 2, none⟩ (.int .i64 0)).setCell ⟨g29a, 3, none⟩ (.int .i64 0)).setCell ⟨g29a, 4, none⟩ (.string ⟨#[]⟩)).setCell ⟨g29a, 5, none⟩ (.slice none 0 0)) = u42a at *
     clear hHeld o41pa o41qa XI41a YI41a
     have hHeld := hHeld1
     clear hHeld1
     try simp only [Act.put, List.setIfInBounds_toArray, List.set_cons_zero, List.set_cons_succ]
     refine wpAnyH_ready (rs := [9]) (by kernel_rfl) (by simp) ?_
     refine AllReadyH.cons rfl (fun K0 hK0 => ?_) AllReadyH.nil
     obtain ⟨⟨-, e0, e1, e2, e3, e4, e5⟩, f0, f1, f2, f3, f4, f5⟩ := id o42qa
     simp only [Nat.zero_add] at e0 e1 e2 e3 e4 e5
     go_simp
     clear e0 e1 e2 e3 e4 e5 f0 f1 f2 f3 f4 f5
     refine hK0.out _ _ ?hS43a (fun hHeld1 => ?_)
     case hS43a => exact unhide SK _ (set6 hHeld.1 (by omega) _ _ _ _ _ _)
     clear hK0 K0
     have s43qa := Own.put o42qa 1 cl 0 0 ⟨#[]⟩ none 0 0
     have s43pa := six_other s42pa (show g29a ≠ g39a by first | assumption | exact Ne.symm (by assumption) | (intro e; omega)) (.int .i64 1) (.bool cl) (.int .i64 0) (.int .i64 0) (.string ⟨#[]⟩) (.slice none 0 0)
     generalize ((((((u42a.setCell ⟨g39a, 0, none⟩ (.int .i64 1)).setCell ⟨g39a, 1, none⟩ (.bool cl)).setCell ⟨g39a, 2, none⟩ (.int .i64 0)).setCell ⟨g39a, 3, none⟩ (.int .i64 0)).setCell ⟨g39a, 4, none⟩ (.string ⟨#[]⟩)).setCell ⟨g39a, 5, none⟩ (.slice none 0 0)) = u43a at *
     clear hHeld o42qa s42pa
     have hHeld := hHeld1
     clear hHeld1
     try simp only [Act.put, List.setIfInBounds_toArray, List.set_cons_zero, List.set_cons_succ]
     refine wpAnyH_done (by kernel_rfl) ?_ _
     refine NoPanic.normal ?_
     go_wp2_with fail
     go_meet
     exact ⟨_, _, rfl, rfl, s43pa, s43qa, hHeld.1⟩
   ·skip
    go_simp
    refine hK0.out _ _ ?hS44a (fun hHeld1 => ?_)
    case hS44a => exact unhide SK _ (keep_alloc hHeld _)
    clear hK0 K0
    have j44a := below1 u0a (Obj.cells #[.int .i64 0, .bool false, .int .i64 0, .int .i64 0, .string ⟨#[]⟩, .slice none 0 0] 32)
    have z44a : w2.heap.size ≤ u0a.heap.size := hHeld.1.size
    have XI44a := hide ((unhide XI0a).below j44a)
    have YI44a := hide ((unhide YI0a).below j44a)
    have o44qa := Own.new u0a 32
    generalize u0a.alloc (Obj.cells #[.int .i64 0, .bool false, .int .i64 0, .int .i64 0, .string ⟨#[]⟩, .slice none 0 0] 32) = u44a at *
    generalize u0a.heap.size = g44a at *
    clear j44a
    clear hHeld XI0a YI0a
    have hHeld := hHeld1
    clear hHeld1
    try simp only [Act.put, List.setIfInBounds_toArray, List.set_cons_zero, List.set_cons_succ]
    refine wpAnyH_ready (rs := [2, 6]) (by kernel_rfl) (by simp) ?_
    refine AllReadyH.cons rfl (fun K0 hK0 => ?_) (AllReadyH.cons rfl (fun K0 hK0 => ?_) AllReadyH.nil)
    ·skip
     go_simp
     refine (unhide R1 _ (unhide XI44a) (unhide YI44a)).mono ?_
     rintro e u45a ⟨rfl, j45a⟩
     unfold leaf
     dsimp only [VT.val]
     go_wp2_with fail
     refine hK0.out _ _ ?hS45a (fun hHeld1 => ?_)
     case hS45a => exact unhide SK _ (keep_call hHeld j45a)
     clear hK0 K0
     have o45qa := o44qa.below j45a
     have XI45a := hide ((unhide XI44a).below j45a)
     have YI45a := hide ((unhide YI44a).below j45a)
     clear j45a
     clear hHeld o44qa XI44a YI44a
     have hHeld := hHeld1
     clear hHeld1
     try simp only [Act.put, List.setIfInBounds_toArray, List.set_cons_zero, List.set_cons_succ]
     refine wpAnyH_ready (rs := [5, 6]) (by kernel_rfl) (by simp) ?_
     refine AllReadyH.cons rfl (fun K0 hK0 => ?_) (AllReadyH.cons rfl (fun K0 hK0 => ?_) AllReadyH.nil)
     ·skip
      go_simp
      refine (unhide R2 _ (unhide XI45a) (unhide YI45a)).mono ?_
      rintro e u46a ⟨rfl, j46a⟩
      unfold leaf
      dsimp only [VT.val]
      go_wp2_with fail
      refine hK0.out _ _ ?hS46a (fun hHeld1 => ?_)
      case hS46a => exact unhide SK _ (keep_call hHeld j46a)
      clear hK0 K0
      have o46qa := o45qa.below j46a
      have XI46a := hide ((unhide XI45a).below j46a)
      have YI46a := hide ((unhide YI45a).below j46a)
      clear j46a
      clear hHeld o45qa XI45a YI45a
      have hHeld := hHeld1
      clear hHeld1
      try simp only [Act.put, List.setIfInBounds_toArray, List.set_cons_zero, List.set_cons_succ]
      refine wpAnyH_ready (rs := [6]) (by kernel_rfl) (by simp) ?_
      refine AllReadyH.cons rfl (fun K0 hK0 => ?_) AllReadyH.nil
      go_simp
      refine hK0.out _ _ ?hS47a (fun hHeld1 => ?_)
      case hS47a => exact unhide SK _ (keep_alloc hHeld _)
      clear hK0 K0
      have j47a := below1 u46a (Obj.cells #[.int .i64 0, .bool false, .int .i64 0, .int .i64 0, .string ⟨#[]⟩, .slice none 0 0] 32)
      have z47a : w2.heap.size ≤ u46a.heap.size := hHeld.1.size
      have o47qa := o46qa.below j47a
      have XI47a := hide ((unhide XI46a).below j47a)
      have YI47a := hide ((unhide YI46a).below j47a)
      have o47pa := Own.new u46a 32
      have ne47qa : g44a ≠ u46a.heap.size := Nat.ne_of_lt o46qa.1.1
      generalize u46a.alloc (Obj.cells #[.int .i64 0, .bool false, .int .i64 0, .int .i64 0, .string ⟨#[]⟩, .slice none 0 0] 32) = u47a at *
      generalize u46a.heap.size = g47a at *
      clear j47a
      clear hHeld o46qa XI46a YI46a
      have hHeld := hHeld1
      clear hHeld1
      try simp only [Act.put, List.setIfInBounds_toArray, List.set_cons_zero, List.set_cons_succ]
      refine wpAnyH_ready (rs := [8]) (by kernel_rfl) (by simp) ?_
      refine AllReadyH.cons rfl (fun K0 hK0 => ?_) AllReadyH.nil
      obtain ⟨⟨-, e0, e1, e2, e3, e4, e5⟩, f0, f1, f2, f3, f4, f5⟩ := id o47pa
      simp only [Nat.zero_add] at e0 e1 e2 e3 e4 e5
      go_simp
      clear e0 e1 e2 e3 e4 e5 f0 f1 f2 f3 f4 f5
      refine hK0.out _ _ ?hS48a (fun hHeld1 => ?_)
      case hS48a => exact unhide SK _ (set6 hHeld.1 (by omega) _ _ _ _ _ _)
      clear hK0 K0
      have s48pa := Own.put o47pa 1 bl 0 0 ⟨#[]⟩ none 0 0
      have o48qa := Own.other o47qa (show g44a ≠ g47a by first | assumption | exact Ne.symm (by assumption) | (intro e; omega)) (.int .i64 1) (.bool bl) (.int .i64 0) (.int .i64 0) (.string ⟨#[]⟩) (.slice none 0 0)
      generalize ((((((u47a.setCell ⟨g47a, 0, none⟩ (.int .i64 1)).setCell ⟨g47a, 1, none⟩ (.bool bl)).setCell ⟨g47a, 2, none⟩ (.int .i64 0)).setCell ⟨g47a, 3, none⟩ (.int .i64 0)).setCell ⟨g47a, 4, none⟩ (.string ⟨#[]⟩)).setCell ⟨g47a, 5, none⟩ (.slice none 0 0)) = u48a at *
      clear hHeld o47qa o47pa XI47a YI47a
      have hHeld := hHeld1
      clear hHeld1
      try simp only [Act.put, List.setIfInBounds_toArray, List.set_cons_zero, List.set_cons_succ]
      refine wpAnyH_ready (rs := [9]) (by kernel_rfl) (by simp) ?_
      refine AllReadyH.cons rfl (fun K0 hK0 => ?_) AllReadyH.nil
      obtain ⟨⟨-, e0, e1, e2, e3, e4, e5⟩, f0, f1, f2, f3, f4, f5⟩ := id o48qa
      simp only [Nat.zero_add] at e0 e1 e2 e3 e4 e5
      go_simp
      clear e0 e1 e2 e3 e4 e5 f0 f1 f2 f3 f4 f5
      refine hK0.out _ _ ?hS49a (fun hHeld1 => ?_)
      case hS49a => exact unhide SK _ (set6 hHeld.1 (by omega) _ _ _ _ _ _)
      clear hK0 K0
      have s49qa := Own.put o48qa 1 cl 0 0 ⟨#[]⟩ none 0 0
      have s49pa := six_other s48pa (show g47a ≠ g44a by first | assumption | exact Ne.symm (by assumption) | (intro e; omega)) (.int .i64 1) (.bool cl) (.int .i64 0) (.int .i64 0) (.string ⟨#[]⟩) (.slice none 0 0)
      generalize ((((((u48a.setCell ⟨g44a, 0, none⟩ (.int .i64 1)).setCell ⟨g44a, 1, none⟩ (.bool cl)).setCell ⟨g44a, 2, none⟩ (.int .i64 0)).setCell ⟨g44a, 3, none⟩ (.int .i64 0)).setCell ⟨g44a, 4, none⟩ (.string ⟨#[]⟩)).setCell ⟨g44a, 5, none⟩ (.slice none 0 0)) = u49a at *
      clear hHeld o48qa s48pa
      have hHeld := hHeld1
      clear hHeld1
      try simp only [Act.put, List.setIfInBounds_toArray, List.set_cons_zero, List.set_cons_succ]
      refine wpAnyH_done (by kernel_rfl) ?_ _
      refine NoPanic.normal ?_
      go_wp2_with fail
      go_meet
      exact ⟨_, _, rfl, rfl, s49pa, s49qa, hHeld.1⟩
     ·skip
      go_simp
      refine hK0.out _ _ ?hS50a (fun hHeld1 => ?_)
      case hS50a => exact unhide SK _ (keep_alloc hHeld _)
      clear hK0 K0
      have j50a := below1 u45a (Obj.cells #[.int .i64 0, .bool false, .int .i64 0, .int .i64 0, .string ⟨#[]⟩, .slice none 0 0] 32)
      have z50a : w2.heap.size ≤ u45a.heap.size := hHeld.1.size
      have o50qa := o45qa.below j50a
      have XI50a := hide ((unhide XI45a).below j50a)
      have YI50a := hide ((unhide YI45a).below j50a)
      have o50pa := Own.new u45a 32
      have ne50qa : g44a ≠ u45a.heap.size := Nat.ne_of_lt o45qa.1.1
      generalize u45a.alloc (Obj.cells #[.int .i64 0, .bool false, .int .i64 0, .int .i64 0, .string ⟨#[]⟩, .slice none 0 0] 32) = u50a at *
      generalize u45a.heap.size = g50a at *
      clear j50a
      clear hHeld o45qa XI45a YI45a
      have hHeld := hHeld1
      clear hHeld1
      try simp only [Act.put, List.setIfInBounds_toArray, List.set_cons_zero, List.set_cons_succ]
      refine wpAnyH_ready (rs := [5]) (by kernel_rfl) (by simp) ?_
      refine AllReadyH.cons rfl (fun K0 hK0 => ?_) AllReadyH.nil
      go_simp
      refine (unhide R2 _ (unhide XI50a) (unhide YI50a)).mono ?_
      rintro e u51a ⟨rfl, j51a⟩
      unfold leaf
      dsimp only [VT.val]
      go_wp2_with fail
      refine hK0.out _ _ ?hS51a (fun hHeld1 => ?_)
      case hS51a => exact unhide SK _ (keep_call hHeld j51a)
      clear hK0 K0
      have o51qa := o50qa.below j51a
      have o51pa := o50pa.below j51a
      have XI51a := hide ((unhide XI50a).below j51a)
      have YI51a := hide ((unhide YI50a).below j51a)
      clear j51a
      clear hHeld o50qa o50pa XI50a YI50a
      have hHeld := hHeld1
      clear hHeld1
      try simp only [Act.put, List.setIfInBounds_toArray, List.set_cons_zero, List.set_cons_succ]
      refine wpAnyH_ready (rs := [8]) (by kernel_rfl) (by simp) ?_
      refine AllReadyH.cons rfl (fun K0 hK0 => ?_) AllReadyH.nil
      obtain ⟨⟨-, e0, e1, e2, e3, e4, e5⟩, f0, f1, f2, f3, f4, f5⟩ := id o51pa
      simp only [Nat.zero_add] at e0 e1 e2 e3 e4 e5
      go_simp
      clear e0 e1 e2 e3 e4 e5 f0 f1 f2 f3 f4 f5
      refine hK0.out _ _ ?hS52a (fun hHeld1 => ?_)
      case hS52a => exact unhide SK _ (set6 hHeld.1 (by omega) _ _ _ _ _ _)
      clear hK0 K0
      have s52pa := Own.put o51pa 1 bl 0 0 ⟨#[]⟩ none 0 0
      have o52qa := Own.other o51qa (show g44a ≠ g50a by first | assumption | exact Ne.symm (by assumption) | (intro e; omega)) (.int .i64 1) (.bool bl) (.int .i64 0) (.int .i64 0) (.string ⟨#[]⟩) (.slice none 0 0)
      generalize ((((((u51a.setCell ⟨g50a, 0, none⟩ (.int .i64 1)).setCell ⟨g50a, 1, none⟩ (.bool bl)).setCell ⟨g50a, 2, none⟩ (.int .i64 0)).setCell ⟨g50a, 3, none⟩ (.int .i64 0)).setCell ⟨g50a, 4, none⟩ (.string ⟨#[]⟩)).setCell ⟨g50a, 5, none⟩ (.slice none 0 0)) = u52a at *
      clear hHeld o51qa o51pa XI51a YI51a
      have hHeld := hHeld1
      clear hHeld1
      try simp only [Act.put, List.setIfInBounds_toArray, List.set_cons_zero, List.set_cons_succ]
      refine wpAnyH_ready (rs := [9]) (by kernel_rfl) (by simp) ?_
      refine AllReadyH.cons rfl (fun K0 hK0 => ?_) AllReadyH.nil
      obtain ⟨⟨-, e0, e1, e2, e3, e4, e5⟩, f0, f1, f2, f3, f4, f5⟩ := id o52qa
      simp only [Nat.zero_add] at e0 e1 e2 e3 e4 e5
      go_simp
      clear e0 e1 e2 e3 e4 e5 f0 f1 f2 f3 f4 f5
      refine hK0.out _ _ ?hS53a (fun hHeld1 => ?_)
      case hS53a => exact unhide SK _ (set6 hHeld.1 (by omega) _ _ _ _ _ _)
      clear hK0 K0
      have s53qa := Own.put o52qa 1 cl 0 0 ⟨#[]⟩ none 0 0
      have s53pa := six_other s52pa (show g50a ≠ g44a by first | assumption | exact Ne.symm (by assumption) | (intro e; omega)) (.int .i64 1) (.bool cl) (.int .i64 0) (.int .i64 0) (.string ⟨#[]⟩) (.slice none 0 0)
      generalize ((((((u52a.setCell ⟨g44a, 0, none⟩ (.int .i64 1)).setCell ⟨g44a, 1, none⟩ (.bool cl)).setCell ⟨g44a, 2, none⟩ (.int .i64 0)).setCell ⟨g44a, 3, none⟩ (.int .i64 0)).setCell ⟨g44a, 4, none⟩ (.string ⟨#[]⟩)).setCell ⟨g44a, 5, none⟩ (.slice none 0 0)) = u53a at *
      clear hHeld o52qa s52pa
      have hHeld := hHeld1
      clear hHeld1
      try simp only [Act.put, List.setIfInBounds_toArray, List.set_cons_zero, List.set_cons_succ]
      refine wpAnyH_done (by kernel_rfl) ?_ _
      refine NoPanic.normal ?_
      go_wp2_with fail
      go_meet
      exact ⟨_, _, rfl, rfl, s53pa, s53qa, hHeld.1⟩
    ·skip
     go_simp
     refine hK0.out _ _ ?hS54a (fun hHeld1 => ?_)
     case hS54a => exact unhide SK _ (keep_alloc hHeld _)
     clear hK0 K0
     have j54a := below1 u44a (Obj.cells #[.int .i64 0, .bool false, .int .i64 0, .int .i64 0, .string ⟨#[]⟩, .slice none 0 0] 32)
     have z54a : w2.heap.size ≤ u44a.heap.size := hHeld.1.size
     have o54qa := o44qa.below j54a
     have XI54a := hide ((unhide XI44a).below j54a)
     have YI54a := hide ((unhide YI44a).below j54a)
     have o54pa := Own.new u44a 32
     have ne54qa : g44a ≠ u44a.heap.size := Nat.ne_of_lt o44qa.1.1
     generalize u44a.alloc (Obj.cells #[.int .i64 0, .bool false, .int .i64 0, .int .i64 0, .string ⟨#[]⟩, .slice none 0 0] 32) = u54a at *
     generalize u44a.heap.size = g54a at *
     clear j54a
     clear hHeld o44qa XI44a YI44a
     have hHeld := hHeld1
     clear hHeld1
     try simp only [Act.put, List.setIfInBounds_toArray, List.set_cons_zero, List.set_cons_succ]
     refine wpAnyH_ready (rs := [2]) (by kernel_rfl) (by simp) ?_
     refine AllReadyH.cons rfl (fun K0 hK0 => ?_) AllReadyH.nil
     go_simp
     refine (unhide R1 _ (unhide XI54a) (unhide YI54a)).mono ?_
     rintro e u55a ⟨rfl, j55a⟩
     unfold leaf
     dsimp only [VT.val]
     go_wp2_with fail
     refine hK0.out _ _ ?hS55a (fun hHeld1 => ?_)
     case hS55a => exact unhide SK _ (keep_call hHeld j55a)
     clear hK0 K0
     have o55qa := o54qa.below j55a
     have o55pa := o54pa.below j55a
     have XI55a := hide ((unhide XI54a).below j55a)
     have YI55a := hide ((unhide YI54a).below j55a)
     clear j55a
     clear hHeld o54qa o54pa XI54a YI54a
     have hHeld := hHeld1
     clear hHeld1
     try simp only [Act.put, List.setIfInBounds_toArray, List.set_cons_zero, List.set_cons_succ]
     refine wpAnyH_ready (rs := [5]) (by kernel_rfl) (by simp) ?_
     refine AllReadyH.cons rfl (fun K0 hK0 => ?_) AllReadyH.nil
     go_simp
     refine (unhide R2 _ (unhide XI55a) (unhide YI55a)).mono ?_
     rintro e u56a ⟨rfl, j56a⟩
     unfold leaf
     dsimp only [VT.val]
     go_wp2_with fail
     refine hK0.out _ _ ?hS56a (fun hHeld1 => ?_)
     case hS56a => exact unhide SK _ (keep_call hHeld j56a)
     clear hK0 K0
     have o56qa := o55qa.below j56a
     have o56pa := o55pa.below j56a
     have XI56a := hide ((unhide XI55a).below j56a)
     have YI56a := hide ((unhide YI55a).below j56a)
     clear j56a
     clear hHeld o55qa o55pa XI55a YI55a
     have hHeld := hHeld1
     clear hHeld1
     try simp only [Act.put, List.setIfInBounds_toArray, List.set_cons_zero, List.set_cons_succ]
     refine wpAnyH_ready (rs := [8]) (by kernel_rfl) (by simp) ?_
     refine AllReadyH.cons rfl (fun K0 hK0 => ?_) AllReadyH.nil
     obtain ⟨⟨-, e0, e1, e2, e3, e4, e5⟩, f0, f1, f2, f3, f4, f5⟩ := id o56pa
     simp only [Nat.zero_add] at e0 e1 e2 e3 e4 e5
     go_simp
     clear e0 e1 e2 e3 e4 e5 f0 f1 f2 f3 f4 f5
     refine hK0.out _ _ ?hS57a (fun hHeld1 => ?_)
     case hS57a => exact unhide SK _ (set6 hHeld.1 (by omega) _ _ _ _ _ _)
     clear hK0 K0
     have s57pa := Own.put o56pa 1 bl 0 0 ⟨#[]⟩ none 0 0
     have o57qa := Own.other o56qa (show g44a ≠ g54a by first | assumption | exact Ne.symm (by assumption) | (intro e; omega)) (.int .i64 1) (.bool bl) (.int .i64 0) (.int .i64 0) (.string ⟨#[]⟩) (.slice none 0 0)
     generalize ((((((u56a.setCell ⟨g54a, 0, none⟩ (.int .i64 1)).setCell ⟨g54a, 1, none⟩ (.bool bl)).setCell ⟨g54a, 2, none⟩ (.int .i64 0)).setCell ⟨g54a, 3, none⟩ (.int .i64 0)).setCell ⟨g54a, 4, none⟩ (.string ⟨#[]⟩)).setCell ⟨g54a, 5, none⟩ (.slice none 0 0)) = u57a at *
     clear hHeld o56qa o56pa XI56a YI56a
     have hHeld := hHeld1
     clear hHeld1
     try simp only [Act.put, List.setIfInBounds_toArray, List.set_cons_zero, List.set_cons_succ]
     refine wpAnyH_ready (rs := [9]) (by kernel_rfl) (by simp) ?_
     refine AllReadyH.cons rfl (fun K0 hK0 => ?_) AllReadyH.nil
     obtain ⟨⟨-, e0, e1, e2, e3, e4, e5⟩, f0, f1, f2, f3, f4, f5⟩ := id o57qa
     simp only [Nat.zero_add] at e0 e1 e2 e3 e4 e5
     go_simp
     clear e0 e1 e2 e3 e4 e5 f0 f1 f2 f3 f4 f5
     refine hK0.out _ _ ?hS58a (fun hHeld1 => ?_)
     case hS58a => exact unhide SK _ (set6 hHeld.1 (by omega) _ _ _ _ _ _)
     clear hK0 K0
     have s58qa := Own.put o57qa 1 cl 0 0 ⟨#[]⟩ none 0 0
     have s58pa := six_other s57pa (show g54a ≠ g44a by first | assumption | exact Ne.symm (by assumption) | (intro e; omega)) (.int .i64 1) (.bool cl) (.int .i64 0) (.int .i64 0) (.string ⟨#[]⟩) (.slice none 0 0)
     generalize ((((((u57a.setCell ⟨g44a, 0, none⟩ (.int .i64 1)).setCell ⟨g44a, 1, none⟩ (.bool cl)).setCell ⟨g44a, 2, none⟩ (.int .i64 0)).setCell ⟨g44a, 3, none⟩ (.int .i64 0)).setCell ⟨g44a, 4, none⟩ (.string ⟨#[]⟩)).setCell ⟨g44a, 5, none⟩ (.slice none 0 0)) = u58a at *
     clear hHeld o57qa s57pa
     have hHeld := hHeld1
     clear hHeld1
     try simp only [Act.put, List.setIfInBounds_toArray, List.set_cons_zero, List.set_cons_succ]
     refine wpAnyH_done (by kernel_rfl) ?_ _
     refine NoPanic.normal ?_
     go_wp2_with fail
     go_meet
     exact ⟨_, _, rfl, rfl, s58pa, s58qa, hHeld.1⟩
  case rest =>
   obtain ⟨g, h, rfl, rfl, Z0, Z1, BC⟩ := hcut
   have XI2 := hide ((unhide XI).below BC)
   have YI2 := hide ((unhide YI).below BC)
   clear XI YI R1 R2
   have XI := XI2
   have YI := YI2
   clear XI2 YI2
   obtain ⟨-, u1, u2, u3, u4, u5, u6, v1, v2, v3, v4, v5, v6⟩ := unhide SK _ BC
   have SK2 : Hid (∀ w', Below wc.heap.size wc w' → (Below wc.heap.size wc w' ∧ w'.cell? ⟨B, 0, none⟩ = some (.int .i64 k) ∧ w'.cell? ⟨B, 1, none⟩ = some (.bool b) ∧ w'.cell? ⟨B, 2, none⟩ = some (.int .i64 m) ∧ w'.cell? ⟨B, 3, none⟩ = some (.int .i64 s) ∧ w'.cell? ⟨B, 4, none⟩ = some (.string t) ∧ w'.cell? ⟨B, 5, none⟩ = some (.slice a len cap) ∧ w'.cell? ⟨(B + 1), 0, none⟩ = some (.int .i64 k') ∧ w'.cell? ⟨(B + 1), 1, none⟩ = some (.bool b') ∧ w'.cell? ⟨(B + 1), 2, none⟩ = some (.int .i64 m') ∧ w'.cell? ⟨(B + 1), 3, none⟩ = some (.int .i64 s') ∧ w'.cell? ⟨(B + 1), 4, none⟩ = some (.string t') ∧ w'.cell? ⟨(B + 1), 5, none⟩ = some (.slice a' len' cap'))) := hide (fun w' kk => ⟨kk, kcell kk (World.block_lt_of_cell? _ _ u1) u1, kcell kk (World.block_lt_of_cell? _ _ u2) u2, kcell kk (World.block_lt_of_cell? _ _ u3) u3, kcell kk (World.block_lt_of_cell? _ _ u4) u4, kcell kk (World.block_lt_of_cell? _ _ u5) u5, kcell kk (World.block_lt_of_cell? _ _ u6) u6, kcell kk (World.block_lt_of_cell? _ _ v1) v1, kcell kk (World.block_lt_of_cell? _ _ v2) v2, kcell kk (World.block_lt_of_cell? _ _ v3) v3, kcell kk (World.block_lt_of_cell? _ _ v4) v4, kcell kk (World.block_lt_of_cell? _ _ v5) v5, kcell kk (World.block_lt_of_cell? _ _ v6) v6⟩)
   clear SK u1 u2 u3 u4 u5 u6 v1 v2 v3 v4 v5 v6
   have SK := SK2
   clear SK2
   have B4 := bstep (show Below w.heap.size w w2 by rw [unhide HB]; exact b2) BC
   clear BC b2
   obtain ⟨y0, y1, y2, y3, y4, y5, y6⟩ := Z0
   obtain ⟨z0, z1, z2, z3, z4, z5, z6⟩ := Z1
   simp only [Nat.zero_add] at y1 y2 y3 y4 y5 y6 z1 z2 z3 z4 z5 z6
   go_upto_region 6 with fail
   clear y0 y1 y2 y3 y4 y5 y6 z0 z1 z2 z3 z4 z5 z6
   have hfd : ∀ (c : Bool) (w : World), (Instr.field 32 (.agg #[.int .i64 1, .bool c, .int .i64 0, .int .i64 0, .string ⟨#[]⟩, .slice none 0 0]) 1).run Tryz.prog w = .ok (.bool c) w := fun _ _ => by kernel_rfl
   refine wp_region_noPanic ?_
   refine wp_region_held_drew (S := fun w' => Below wc.heap.size wc w' ∧ w'.cell? ⟨B, 0, none⟩ = some (.int .i64 k) ∧ w'.cell? ⟨B, 1, none⟩ = some (.bool b) ∧ w'.cell? ⟨B, 2, none⟩ = some (.int .i64 m) ∧ w'.cell? ⟨B, 3, none⟩ = some (.int .i64 s) ∧ w'.cell? ⟨B, 4, none⟩ = some (.string t) ∧ w'.cell? ⟨B, 5, none⟩ = some (.slice a len cap) ∧ w'.cell? ⟨(B + 1), 0, none⟩ = some (.int .i64 k') ∧ w'.cell? ⟨(B + 1), 1, none⟩ = some (.bool b') ∧ w'.cell? ⟨(B + 1), 2, none⟩ = some (.int .i64 m') ∧ w'.cell? ⟨(B + 1), 3, none⟩ = some (.int .i64 s') ∧ w'.cell? ⟨(B + 1), 4, none⟩ = some (.string t') ∧ w'.cell? ⟨(B + 1), 5, none⟩ = some (.slice a' len' cap')) (by kernel_rfl) ?hS0c (fun hHeld => ?_)
   case hS0c => exact unhide SK _ (Below.refl _ _).drew
   have jdc : Below wc.heap.size wc wc.drew := (Below.refl _ _).drew
   have XI0c := hide ((unhide XI).below jdc)
   have YI0c := hide ((unhide YI).below jdc)
   clear jdc
   generalize wc.drew = u0c at *
   refine takeAt 0 (some 57) ?vc0x0 ⟨_, rfl, rfl, rfl, ?hyc0x0⟩ (by kernel_rfl) (by kernel_rfl) (by kernel_rfl) (fun _ _ _ h => h) (by assumption) ?_
   case hyc0x0 => (intro w0 hSw; (try dsimp only at hSw); go_simp; try (with_reducible rfl))
   simp only [Act.put, List.setIfInBounds_toArray, List.set_cons_zero, List.set_cons_succ]
   refine takeAt 1 (some 58) ?vc1x0 ⟨_, rfl, rfl, rfl, ?hyc1x0⟩ (by kernel_rfl) (by kernel_rfl) (by kernel_rfl) (fun _ _ _ h => h) (by assumption) ?_
   case hyc1x0 => (intro w0 hSw; (try dsimp only at hSw); go_simp; try (with_reducible rfl))
   simp only [Act.put, List.setIfInBounds_toArray, List.set_cons_zero, List.set_cons_succ]
   refine takeAt 2 (some 59) ?vc2x0 ⟨_, rfl, rfl, rfl, ?hyc2x0⟩ (by kernel_rfl) (by kernel_rfl) (by kernel_rfl) (fun _ _ _ h => h) (by assumption) ?_
   case hyc2x0 => (intro w0 hSw; (try dsimp only at hSw); go_simp; try (with_reducible rfl))
   simp only [Act.put, List.setIfInBounds_toArray, List.set_cons_zero, List.set_cons_succ]
   refine takeAt 4 (some 61) ?vc4x0 ⟨_, rfl, rfl, rfl, ?hyc4x0⟩ (by kernel_rfl) (by kernel_rfl) (by kernel_rfl) (fun _ _ _ h => h) (by assumption) ?_
   case hyc4x0 => (intro w0 hSw; (try dsimp only at hSw); go_simp; try (with_reducible rfl))
   simp only [Act.put, List.setIfInBounds_toArray, List.set_cons_zero, List.set_cons_succ]
   refine takeAt 5 (some 62) ?vc5x0 ⟨_, rfl, rfl, rfl, ?hyc5x0⟩ (by kernel_rfl) (by kernel_rfl) (by kernel_rfl) (fun _ _ _ h => h) (by assumption) ?_
   case hyc5x0 => (intro w0 hSw; (try dsimp only at hSw); go_simp; try (with_reducible rfl))
   simp only [Act.put, List.setIfInBounds_toArray, List.set_cons_zero, List.set_cons_succ]
   refine takeAt 6 (some 63) ?vc6x0 ⟨_, rfl, rfl, rfl, ?hyc6x0⟩ (by kernel_rfl) (by kernel_rfl) (by kernel_rfl) (fun _ _ _ h => h) (by assumption) ?_
   case hyc6x0 => (intro w0 hSw; (try dsimp only at hSw); go_simp; try (with_reducible rfl))
   simp only [Act.put, List.setIfInBounds_toArray, List.set_cons_zero, List.set_cons_succ]
   refine wpAnyH_ready (rs := [3]) (by kernel_rfl) (by simp) ?_
   refine AllReadyH.cons rfl (fun K0 hK0 => ?_) AllReadyH.nil
   go_simp
   refine (unhide R3 _ (unhide XI0c) (unhide YI0c)).mono ?_
   rintro e u1c ⟨rfl, j1c⟩
   unfold leaf
   dsimp only [VT.val]
   go_wp2_with fail
   refine hK0.out _ _ ?hS1c (fun hHeld1 => ?_)
   case hS1c => exact unhide SK _ (keep_call hHeld j1c)
   clear hK0 K0
   have XI1c := hide ((unhide XI0c).below j1c)
   have YI1c := hide ((unhide YI0c).below j1c)
   clear j1c
   clear hHeld XI0c YI0c
   have hHeld := hHeld1
   clear hHeld1
   try simp only [Act.put, List.setIfInBounds_toArray, List.set_cons_zero, List.set_cons_succ]
   refine wpAnyH_ready (rs := [7]) (by kernel_rfl) (by simp) ?_
   refine AllReadyH.cons rfl (fun K0 hK0 => ?_) AllReadyH.nil
   go_simp
   refine (unhide R4 _ (unhide XI1c) (unhide YI1c)).mono ?_
   rintro e u2c ⟨rfl, j2c⟩
   unfold leaf
   dsimp only [VT.val]
   go_wp2_with fail
   refine hK0.out _ _ ?hS2c (fun hHeld1 => ?_)
   case hS2c => exact unhide SK _ (keep_call hHeld j2c)
   clear hK0 K0
   have XI2c := hide ((unhide XI1c).below j2c)
   have YI2c := hide ((unhide YI1c).below j2c)
   clear j2c
   clear hHeld XI1c YI1c
   have hHeld := hHeld1
   clear hHeld1
   try simp only [Act.put, List.setIfInBounds_toArray, List.set_cons_zero, List.set_cons_succ]
   refine wpAnyH_ready (rs := [8]) (by kernel_rfl) (by simp) ?_
   refine AllReadyH.cons rfl (fun K0 hK0 => ?_) AllReadyH.nil
   go_simp
   refine (slf_same kO bO 0 0 ⟨#[]⟩ none 0 (fun _ => .none) (unhide HO w) _).mono ?_
   rintro e u3c ⟨rfl, j3c⟩
   go_wp2_with fail
   refine hK0.out _ _ ?hS3c (fun hHeld1 => ?_)
   case hS3c => exact unhide SK _ (keep_call hHeld j3c)
   clear hK0 K0
   have XI3c := hide ((unhide XI2c).below j3c)
   have YI3c := hide ((unhide YI2c).below j3c)
   clear j3c
   clear hHeld XI2c YI2c
   have hHeld := hHeld1
   clear hHeld1
   try simp only [Act.put, List.setIfInBounds_toArray, List.set_cons_zero, List.set_cons_succ]
   refine takeAt 9 (some 66) ?vc9x3 ⟨_, rfl, rfl, rfl, ?hyc9x3⟩ (by kernel_rfl) (by kernel_rfl) (by kernel_rfl) (fun _ _ _ h => h) (by assumption) ?_
   case hyc9x3 => (intro w0 hSw; (try dsimp only at hSw); go_simp; try (with_reducible rfl))
   simp only [Act.put, List.setIfInBounds_toArray, List.set_cons_zero, List.set_cons_succ]
   refine takeAt 10 (some 67) ?vc10x3 ⟨_, rfl, rfl, rfl, ?hyc10x3⟩ (by kernel_rfl) (by kernel_rfl) (by kernel_rfl) (fun _ _ _ h => h) (by assumption) ?_
   case hyc10x3 => (intro w0 hSw; (try dsimp only at hSw); go_simp; try (with_reducible rfl))
   simp only [Act.put, List.setIfInBounds_toArray, List.set_cons_zero, List.set_cons_succ]
   refine takeAt 11 (some 68) ?vc11x3 ⟨_, rfl, rfl, rfl, ?hyc11x3⟩ (by kernel_rfl) (by kernel_rfl) (by kernel_rfl) (fun _ _ _ h => h) (by assumption) ?_
   case hyc11x3 => (intro w0 hSw; (try dsimp only at hSw); go_simp; try (with_reducible rfl))
   simp only [Act.put, List.setIfInBounds_toArray, List.set_cons_zero, List.set_cons_succ]
   refine takeAt 14 (some 71) ?vc14x3 ⟨_, rfl, rfl, rfl, ?hyc14x3⟩ (by kernel_rfl) (by kernel_rfl) (by kernel_rfl) (fun _ _ _ h => h) (by assumption) ?_
   case hyc14x3 => (intro w0 hSw; (try dsimp only at hSw); go_simp; try (with_reducible rfl))
   simp only [Act.put, List.setIfInBounds_toArray, List.set_cons_zero, List.set_cons_succ]
   refine takeAt 15 (some 72) ?vc15x3 ⟨_, rfl, rfl, rfl, ?hyc15x3⟩ (by kernel_rfl) (by kernel_rfl) (by kernel_rfl) (fun _ _ _ h => h) (by assumption) ?_
   case hyc15x3 => (intro w0 hSw; (try dsimp only at hSw); go_simp; try (with_reducible rfl))
   simp only [Act.put, List.setIfInBounds_toArray, List.set_cons_zero, List.set_cons_succ]
   refine wpAnyH_ready (rs := [12]) (by kernel_rfl) (by simp) ?_
   refine AllReadyH.cons rfl (fun K0 hK0 => ?_) AllReadyH.nil
   go_simp
   refine (unhide R5 _ (unhide XI3c) (unhide YI3c)).mono ?_
   rintro e u4c ⟨rfl, j4c⟩
   unfold leaf
   dsimp only [VT.val]
   go_wp2_with fail
   refine hK0.out _ _ ?hS4c (fun hHeld1 => ?_)
   case hS4c => exact unhide SK _ (keep_call hHeld j4c)
   clear hK0 K0
   have XI4c := hide ((unhide XI3c).below j4c)
   have YI4c := hide ((unhide YI3c).below j4c)
   clear j4c
   clear hHeld XI3c YI3c
   have hHeld := hHeld1
   clear hHeld1
   try simp only [Act.put, List.setIfInBounds_toArray, List.set_cons_zero, List.set_cons_succ]
   refine takeAt 13 (some 70) ?vc13x4 ⟨_, rfl, rfl, rfl, ?hyc13x4⟩ (by kernel_rfl) (by kernel_rfl) (by kernel_rfl) (fun _ _ _ h => h) (by assumption) ?_
   case hyc13x4 => (intro w0 hSw; (try dsimp only at hSw); go_simp; try (with_reducible rfl))
   simp only [Act.put, List.setIfInBounds_toArray, List.set_cons_zero, List.set_cons_succ]
   refine wpAnyH_ready (rs := [16]) (by kernel_rfl) (by simp) ?_
   refine AllReadyH.cons rfl (fun K0 hK0 => ?_) AllReadyH.nil
   go_simp
   refine (unhide R6 _ (unhide XI4c) (unhide YI4c)).mono ?_
   rintro e u5c ⟨rfl, j5c⟩
   unfold leaf
   dsimp only [VT.val]
   go_wp2_with fail
   refine hK0.out _ _ ?hS5c (fun hHeld1 => ?_)
   case hS5c => exact unhide SK _ (keep_call hHeld j5c)
   clear hK0 K0
   have XI5c := hide ((unhide XI4c).below j5c)
   have YI5c := hide ((unhide YI4c).below j5c)
   clear j5c
   clear hHeld XI4c YI4c
   have hHeld := hHeld1
   clear hHeld1
   try simp only [Act.put, List.setIfInBounds_toArray, List.set_cons_zero, List.set_cons_succ]
   refine takeAt 17 (some 74) ?vc17x5 ⟨_, rfl, rfl, rfl, ?hyc17x5⟩ (by kernel_rfl) (by kernel_rfl) (by kernel_rfl) (fun _ _ _ h => h) (by assumption) ?_
   case hyc17x5 => (intro w0 hSw; (try dsimp only at hSw); go_simp; try (with_reducible rfl))
   simp only [Act.put, List.setIfInBounds_toArray, List.set_cons_zero, List.set_cons_succ]
   refine takeAt 18 (some 75) ?vc18x5 ⟨_, rfl, rfl, rfl, ?hyc18x5⟩ (by kernel_rfl) (by kernel_rfl) (by kernel_rfl) (fun _ _ _ h => h) (by assumption) ?_
   case hyc18x5 => (intro w0 hSw; (try dsimp only at hSw); go_simp; try (with_reducible rfl))
   simp only [Act.put, List.setIfInBounds_toArray, List.set_cons_zero, List.set_cons_succ]
   refine takeAt 19 (some 76) ?vc19x5 ⟨_, rfl, rfl, rfl, ?hyc19x5⟩ (by kernel_rfl) (by kernel_rfl) (by kernel_rfl) (fun _ _ _ h => h) (by assumption) ?_
   case hyc19x5 => (intro w0 hSw; (try dsimp only at hSw); go_simp; try (with_reducible rfl))
   simp only [Act.put, List.setIfInBounds_toArray, List.set_cons_zero, List.set_cons_succ]
   refine takeAt 20 (some 77) ?vc20x5 ⟨_, rfl, rfl, rfl, ?hyc20x5⟩ (by kernel_rfl) (by kernel_rfl) (by kernel_rfl) (fun _ _ _ h => h) (by assumption) ?_
   case hyc20x5 => (intro w0 hSw; (try dsimp only at hSw); go_simp; try (with_reducible rfl))
   simp only [Act.put, List.setIfInBounds_toArray, List.set_cons_zero, List.set_cons_succ]
   refine takeAt 21 (some 78) ?vc21x5 ⟨_, rfl, rfl, rfl, ?hyc21x5⟩ (by kernel_rfl) (by kernel_rfl) (by kernel_rfl) (fun _ _ _ h => h) (by assumption) ?_
   case hyc21x5 => (intro w0 hSw; (try dsimp only at hSw); go_simp; try (with_reducible rfl))
   simp only [Act.put, List.setIfInBounds_toArray, List.set_cons_zero, List.set_cons_succ]
   refine wpAnyH_ready (rs := [22]) (by kernel_rfl) (by simp) ?_
   refine AllReadyH.cons rfl (fun K0 hK0 => ?_) AllReadyH.nil
   go_simp
   refine (eknown_any _).mono ?_
   rintro e u6c ⟨rfl, j6c⟩
   go_wp2_with fail
   refine hK0.out _ _ ?hS6c (fun hHeld1 => ?_)
   case hS6c => exact unhide SK _ (keep_call hHeld j6c)
   clear hK0 K0
   have XI6c := hide ((unhide XI5c).below j6c)
   have YI6c := hide ((unhide YI5c).below j6c)
   clear j6c
   clear hHeld XI5c YI5c
   have hHeld := hHeld1
   clear hHeld1
   try simp only [Act.put, List.setIfInBounds_toArray, List.set_cons_zero, List.set_cons_succ]
   refine takeAt 23 (some 80) ?vc23x6 ⟨_, rfl, rfl, rfl, ?hyc23x6⟩ (by kernel_rfl) (by kernel_rfl) (by kernel_rfl) (fun _ _ _ h => h) (by assumption) ?_
   case hyc23x6 => (intro w0 hSw; (try dsimp only at hSw); go_simp; try (with_reducible rfl))
   simp only [Act.put, List.setIfInBounds_toArray, List.set_cons_zero, List.set_cons_succ]
   refine takeAt 24 (some 6) ?vc24x6 ⟨_, rfl, rfl, rfl, ?hyc24x6⟩ (by kernel_rfl) (by kernel_rfl) (by kernel_rfl) (fun _ _ _ h => h) (by assumption) ?_
   case hyc24x6 => (intro w0 hSw; (try dsimp only at hSw); go_simp; try (with_reducible rfl))
   simp only [Act.put, List.setIfInBounds_toArray, List.set_cons_zero, List.set_cons_succ]
   refine wpAnyH_done (by kernel_rfl) ?_ _
   refine NoPanic.normal ?_
   have BQ := hHeld.1
   clear hHeld
   go_wp2_with fail
   go_ret
   exact ⟨rfl, by first | exact bstep B4 BQ | (rw [← unhide HB]; exact bstep B4 BQ)⟩
 ·rw [e1] at R1
  rw [e2] at R2
  clear e1 e2
  have R1 := hide R1
  have R2 := hide R2
  have R3 := hide R3
  have R4 := hide R4
  have R5 := hide R5
  have R6 := hide R6
  go_enter Tryz.func6, Tryz.ntmps6
  obtain ⟨u0, u1, u2, u3, u4, u5, u6⟩ := id F0
  obtain ⟨v0, v1, v2, v3, v4, v5, v6⟩ := id F1
  simp only [Nat.zero_add] at u1 u2 u3 u4 u5 u6 v1 v2 v3 v4 v5 v6
  go_wp2_with fail
  refine (unhide IA _ (unhide XI)).mono ?_
  rintro e w1 ⟨rfl, k1⟩
  have b1 := bstep b0 k1
  have G0 := F0.below k1
  have G1 := F1.below k1
  have XI1 := hide ((unhide XI).below k1)
  have YI1 := hide ((unhide YI).below k1)
  clear k1 b0 F0 F1 IA XI YI u0 u1 u2 u3 u4 u5 u6 v0 v1 v2 v3 v4 v5 v6
  obtain ⟨u0, u1, u2, u3, u4, u5, u6⟩ := id G0
  obtain ⟨v0, v1, v2, v3, v4, v5, v6⟩ := id G1
  simp only [Nat.zero_add] at u1 u2 u3 u4 u5 u6 v1 v2 v3 v4 v5 v6
  go_wp2_with fail
  refine (unhide IB _ (unhide YI1)).mono ?_
  rintro e w2 ⟨rfl, k2⟩
  have b2 := bstep b1 k2
  have H0 := G0.below k2
  have H1 := G1.below k2
  have XI := hide ((unhide XI1).below k2)
  have YI := hide ((unhide YI1).below k2)
  clear k2 b1 G0 G1 IB XI1 YI1 u0 u1 u2 u3 u4 u5 u6 v0 v1 v2 v3 v4 v5 v6
  obtain ⟨u0, u1, u2, u3, u4, u5, u6⟩ := id H0
  obtain ⟨v0, v1, v2, v3, v4, v5, v6⟩ := id H1
  simp only [Nat.zero_add] at u1 u2 u3 u4 u5 u6 v1 v2 v3 v4 v5 v6
  generalize hB : w.heap.size = B at *
  have HB := hide hB
  clear hB
  go_upto_region 3 with fail
  have SK : Hid (∀ w', Below w2.heap.size w2 w' → (Below w2.heap.size w2 w' ∧ w'.cell? ⟨B, 0, none⟩ = some (.int .i64 k) ∧ w'.cell? ⟨B, 1, none⟩ = some (.bool b) ∧ w'.cell? ⟨B, 2, none⟩ = some (.int .i64 m) ∧ w'.cell? ⟨B, 3, none⟩ = some (.int .i64 s) ∧ w'.cell? ⟨B, 4, none⟩ = some (.string t) ∧ w'.cell? ⟨B, 5, none⟩ = some (.slice a len cap) ∧ w'.cell? ⟨(B + 1), 0, none⟩ = some (.int .i64 k') ∧ w'.cell? ⟨(B + 1), 1, none⟩ = some (.bool b') ∧ w'.cell? ⟨(B + 1), 2, none⟩ = some (.int .i64 m') ∧ w'.cell? ⟨(B + 1), 3, none⟩ = some (.int .i64 s') ∧ w'.cell? ⟨(B + 1), 4, none⟩ = some (.string t') ∧ w'.cell? ⟨(B + 1), 5, none⟩ = some (.slice a' len' cap'))) := hide (fun w' kk => ⟨kk, kcell kk (World.block_lt_of_cell? _ _ u1) u1, kcell kk (World.block_lt_of_cell? _ _ u2) u2, kcell kk (World.block_lt_of_cell? _ _ u3) u3, kcell kk (World.block_lt_of_cell? _ _ u4) u4, kcell kk (World.block_lt_of_cell? _ _ u5) u5, kcell kk (World.block_lt_of_cell? _ _ u6) u6, kcell kk (World.block_lt_of_cell? _ _ v1) v1, kcell kk (World.block_lt_of_cell? _ _ v2) v2, kcell kk (World.block_lt_of_cell? _ _ v3) v3, kcell kk (World.block_lt_of_cell? _ _ v4) v4, kcell kk (World.block_lt_of_cell? _ _ v5) v5, kcell kk (World.block_lt_of_cell? _ _ v6) v6⟩)
  clear H0 H1 u0 u1 u2 u3 u4 u5 u6 v0 v1 v2 v3 v4 v5 v6
  go_cut [7, 8] (fun p q wx => ∃ g h, p = .pointer (some ⟨g, 0, none⟩) ∧ q = .pointer (some ⟨h, 0, none⟩) ∧ VT.Six wx g 0 0 false 0 0 ⟨#[]⟩ none 0 0 ∧ VT.Six wx h 0 0 false 0 0 ⟨#[]⟩ none 0 0 ∧ Below w2.heap.size w2 wx)
  case first =>
   refine wp_region_noPanic ?_
   refine wp_region_held_drew (S := fun w' => Below w2.heap.size w2 w' ∧ w'.cell? ⟨B, 0, none⟩ = some (.int .i64 k) ∧ w'.cell? ⟨B, 1, none⟩ = some (.bool b) ∧ w'.cell? ⟨B, 2, none⟩ = some (.int .i64 m) ∧ w'.cell? ⟨B, 3, none⟩ = some (.int .i64 s) ∧ w'.cell? ⟨B, 4, none⟩ = some (.string t) ∧ w'.cell? ⟨B, 5, none⟩ = some (.slice a len cap) ∧ w'.cell? ⟨(B + 1), 0, none⟩ = some (.int .i64 k') ∧ w'.cell? ⟨(B + 1), 1, none⟩ = some (.bool b') ∧ w'.cell? ⟨(B + 1), 2, none⟩ = some (.int .i64 m') ∧ w'.cell? ⟨(B + 1), 3, none⟩ = some (.int .i64 s') ∧ w'.cell? ⟨(B + 1), 4, none⟩ = some (.string t') ∧ w'.cell? ⟨(B + 1), 5, none⟩ = some (.slice a' len' cap')) (by kernel_rfl) ?hS0b (fun hHeld => ?_)
   case hS0b => exact unhide SK _ (Below.refl _ _).drew
   have jdb : Below w2.heap.size w2 w2.drew := (Below.refl _ _).drew
   have XI0b := hide ((unhide XI).below jdb)
   have YI0b := hide ((unhide YI).below jdb)
   clear jdb
   generalize w2.drew = u0b at *
   refine takeAt 0 (some 34) ?vb0x0 ⟨_, rfl, rfl, rfl, ?hyb0x0⟩ (by kernel_rfl) (by kernel_rfl) (by kernel_rfl) (fun _ _ _ h => h) (by assumption) ?_
   case hyb0x0 => (intro w0 hSw; (try dsimp only at hSw); go_simp; try (with_reducible rfl))
   simp only [Act.put, List.setIfInBounds_toArray, List.set_cons_zero, List.set_cons_succ]
   refine takeAt 1 (some 35) ?vb1x0 ⟨_, rfl, rfl, rfl, ?hyb1x0⟩ (by kernel_rfl) (by kernel_rfl) (by kernel_rfl) (fun _ _ _ h => h) (by assumption) ?_
   case hyb1x0 => (intro w0 hSw; (try dsimp only at hSw); go_simp; try (with_reducible rfl))
   simp only [Act.put, List.setIfInBounds_toArray, List.set_cons_zero, List.set_cons_succ]
   refine takeAt 3 (some 37) ?vb3x0 ⟨_, rfl, rfl, rfl, ?hyb3x0⟩ (by kernel_rfl) (by kernel_rfl) (by kernel_rfl) (fun _ _ _ h => h) (by assumption) ?_
   case hyb3x0 => (intro w0 hSw; (try dsimp only at hSw); go_simp; try (with_reducible rfl))
   simp only [Act.put, List.setIfInBounds_toArray, List.set_cons_zero, List.set_cons_succ]
   refine takeAt 4 (some 38) ?vb4x0 ⟨_, rfl, rfl, rfl, ?hyb4x0⟩ (by kernel_rfl) (by kernel_rfl) (by kernel_rfl) (fun _ _ _ h => h) (by assumption) ?_
   case hyb4x0 => (intro w0 hSw; (try dsimp only at hSw); go_simp; try (with_reducible rfl))
   simp only [Act.put, List.setIfInBounds_toArray, List.set_cons_zero, List.set_cons_succ]
   refine wpAnyH_ready (rs := [2, 6, 7]) (by kernel_rfl) (by simp) ?_
   refine AllReadyH.cons rfl (fun K0 hK0 => ?_) (AllReadyH.cons rfl (fun K0 hK0 => ?_) (AllReadyH.cons rfl (fun K0 hK0 => ?_) AllReadyH.nil))
   ·skip
    go_simp
    refine (unhide R1 _ (unhide XI0b) (unhide YI0b)).mono ?_
    rintro e u1b ⟨rfl, j1b⟩
    unfold leaf
    dsimp only [VT.val]
    go_wp2_with fail
    refine hK0.out _ _ ?hS1b (fun hHeld1 => ?_)
    case hS1b => exact unhide SK _ (keep_call hHeld j1b)
    clear hK0 K0
    have XI1b := hide ((unhide XI0b).below j1b)
    have YI1b := hide ((unhide YI0b).below j1b)
    clear j1b
    clear hHeld XI0b YI0b
    have hHeld := hHeld1
    clear hHeld1
    try simp only [Act.put, List.setIfInBounds_toArray, List.set_cons_zero, List.set_cons_succ]
    refine wpAnyH_ready (rs := [5, 6, 7]) (by kernel_rfl) (by simp) ?_
    refine AllReadyH.cons rfl (fun K0 hK0 => ?_) (AllReadyH.cons rfl (fun K0 hK0 => ?_) (AllReadyH.cons rfl (fun K0 hK0 => ?_) AllReadyH.nil))
    ·skip
     go_simp
     refine (unhide R2 _ (unhide XI1b) (unhide YI1b)).mono ?_
     rintro e u2b ⟨rfl, j2b⟩
     unfold leaf
     dsimp only [VT.val]
     go_wp2_with fail
     refine hK0.out _ _ ?hS2b (fun hHeld1 => ?_)
     case hS2b => exact unhide SK _ (keep_call hHeld j2b)
     clear hK0 K0
     have XI2b := hide ((unhide XI1b).below j2b)
     have YI2b := hide ((unhide YI1b).below j2b)
     clear j2b
     clear hHeld XI1b YI1b
     have hHeld := hHeld1
     clear hHeld1
     try simp only [Act.put, List.setIfInBounds_toArray, List.set_cons_zero, List.set_cons_succ]
     refine wpAnyH_ready (rs := [6, 7]) (by kernel_rfl) (by simp) ?_
     refine AllReadyH.cons rfl (fun K0 hK0 => ?_) (AllReadyH.cons rfl (fun K0 hK0 => ?_) AllReadyH.nil)
     ·skip
      go_simp
      refine hK0.out _ _ ?hS3b (fun hHeld1 => ?_)
      case hS3b => exact unhide SK _ (keep_alloc hHeld _)
      clear hK0 K0
      have j3b := below1 u2b (Obj.cells #[.int .i64 0, .bool false, .int .i64 0, .int .i64 0, .string ⟨#[]⟩, .slice none 0 0] 32)
      have z3b : w2.heap.size ≤ u2b.heap.size := hHeld.1.size
      have XI3b := hide ((unhide XI2b).below j3b)
      have YI3b := hide ((unhide YI2b).below j3b)
      have o3pb := Own.new u2b 32
      generalize u2b.alloc (Obj.cells #[.int .i64 0, .bool false, .int .i64 0, .int .i64 0, .string ⟨#[]⟩, .slice none 0 0] 32) = u3b at *
      generalize u2b.heap.size = g3b at *
      clear j3b
      clear hHeld XI2b YI2b
      have hHeld := hHeld1
      clear hHeld1
      try simp only [Act.put, List.setIfInBounds_toArray, List.set_cons_zero, List.set_cons_succ]
      refine wpAnyH_ready (rs := [7]) (by kernel_rfl) (by simp) ?_
      refine AllReadyH.cons rfl (fun K0 hK0 => ?_) AllReadyH.nil
      go_simp
      refine hK0.out _ _ ?hS4b (fun hHeld1 => ?_)
      case hS4b => exact unhide SK _ (keep_alloc hHeld _)
      clear hK0 K0
      have j4b := below1 u3b (Obj.cells #[.int .i64 0, .bool false, .int .i64 0, .int .i64 0, .string ⟨#[]⟩, .slice none 0 0] 32)
      have z4b : w2.heap.size ≤ u3b.heap.size := hHeld.1.size
      have o4pb := o3pb.below j4b
      have XI4b := hide ((unhide XI3b).below j4b)
      have YI4b := hide ((unhide YI3b).below j4b)
      have o4qb := Own.new u3b 32
      have ne4pb : g3b ≠ u3b.heap.size := Nat.ne_of_lt o3pb.1.1
      generalize u3b.alloc (Obj.cells #[.int .i64 0, .bool false, .int .i64 0, .int .i64 0, .string ⟨#[]⟩, .slice none 0 0] 32) = u4b at *
      generalize u3b.heap.size = g4b at *
      clear j4b
      clear hHeld o3pb XI3b YI3b
      have hHeld := hHeld1
      clear hHeld1
      try simp only [Act.put, List.setIfInBounds_toArray, List.set_cons_zero, List.set_cons_succ]
      refine wpAnyH_ready (rs := [8]) (by kernel_rfl) (by simp) ?_
      refine AllReadyH.cons rfl (fun K0 hK0 => ?_) AllReadyH.nil
      obtain ⟨⟨-, e0, e1, e2, e3, e4, e5⟩, f0, f1, f2, f3, f4, f5⟩ := id o4pb
      simp only [Nat.zero_add] at e0 e1 e2 e3 e4 e5
      go_simp
      clear e0 e1 e2 e3 e4 e5 f0 f1 f2 f3 f4 f5
      refine hK0.out _ _ ?hS5b (fun hHeld1 => ?_)
      case hS5b => exact unhide SK _ (set6 hHeld.1 (by omega) _ _ _ _ _ _)
      clear hK0 K0
      have s5pb := Own.put o4pb 0 false 0 0 ⟨#[]⟩ none 0 0
      have o5qb := Own.other o4qb (show g4b ≠ g3b by first | assumption | exact Ne.symm (by assumption) | (intro e; omega)) (.int .i64 0) (.bool false) (.int .i64 0) (.int .i64 0) (.string ⟨#[]⟩) (.slice none 0 0)
      generalize ((((((u4b.setCell ⟨g3b, 0, none⟩ (.int .i64 0)).setCell ⟨g3b, 1, none⟩ (.bool false)).setCell ⟨g3b, 2, none⟩ (.int .i64 0)).setCell ⟨g3b, 3, none⟩ (.int .i64 0)).setCell ⟨g3b, 4, none⟩ (.string ⟨#[]⟩)).setCell ⟨g3b, 5, none⟩ (.slice none 0 0)) = u5b at *
      clear hHeld o4pb o4qb XI4b YI4b
      have hHeld := hHeld1
      clear hHeld1
      try simp only [Act.put, List.setIfInBounds_toArray, List.set_cons_zero, List.set_cons_succ]
      refine wpAnyH_ready (rs := [9]) (by kernel_rfl) (by simp) ?_
      refine AllReadyH.cons rfl (fun K0 hK0 => ?_) AllReadyH.nil
      obtain ⟨⟨-, e0, e1, e2, e3, e4, e5⟩, f0, f1, f2, f3, f4, f5⟩ := id o5qb
      simp only [Nat.zero_add] at e0 e1 e2 e3 e4 e5
      go_simp
      clear e0 e1 e2 e3 e4 e5 f0 f1 f2 f3 f4 f5
      refine hK0.out _ _ ?hS6b (fun hHeld1 => ?_)
      case hS6b => exact unhide SK _ (set6 hHeld.1 (by omega) _ _ _ _ _ _)
      clear hK0 K0
      have s6qb := Own.put o5qb 0 false 0 0 ⟨#[]⟩ none 0 0
      have s6pb := six_other s5pb (show g3b ≠ g4b by first | assumption | exact Ne.symm (by assumption) | (intro e; omega)) (.int .i64 0) (.bool false) (.int .i64 0) (.int .i64 0) (.string ⟨#[]⟩) (.slice none 0 0)
      generalize ((((((u5b.setCell ⟨g4b, 0, none⟩ (.int .i64 0)).setCell ⟨g4b, 1, none⟩ (.bool false)).setCell ⟨g4b, 2, none⟩ (.int .i64 0)).setCell ⟨g4b, 3, none⟩ (.int .i64 0)).setCell ⟨g4b, 4, none⟩ (.string ⟨#[]⟩)).setCell ⟨g4b, 5, none⟩ (.slice none 0 0)) = u6b at *
      clear hHeld o5qb s5pb
      have hHeld := hHeld1
      clear hHeld1
      try simp only [Act.put, List.setIfInBounds_toArray, List.set_cons_zero, List.set_cons_succ]
      refine wpAnyH_done (by kernel_rfl) ?_ _
      refine NoPanic.normal ?_
      go_wp2_with fail
      go_meet
      exact ⟨_, _, rfl, rfl, s6pb, s6qb, hHeld.1⟩
     ·skip
      go_simp
      refine hK0.out _ _ ?hS7b (fun hHeld1 => ?_)
      case hS7b => exact unhide SK _ (keep_alloc hHeld _)
      clear hK0 K0
      have j7b := below1 u2b (Obj.cells #[.int .i64 0, .bool false, .int .i64 0, .int .i64 0, .string ⟨#[]⟩, .slice none 0 0] 32)
      have z7b : w2.heap.size ≤ u2b.heap.size := hHeld.1.size
      have XI7b := hide ((unhide XI2b).below j7b)
      have YI7b := hide ((unhide YI2b).below j7b)
      have o7qb := Own.new u2b 32
      generalize u2b.alloc (Obj.cells #[.int .i64 0, .bool false, .int .i64 0, .int .i64 0, .string ⟨#[]⟩, .slice none 0 0] 32) = u7b at *
      generalize u2b.heap.size = g7b at *
      clear j7b
      clear hHeld XI2b YI2b
      have hHeld := hHeld1
      clear hHeld1
      try simp only [Act.put, List.setIfInBounds_toArray, List.set_cons_zero, List.set_cons_succ]
      refine wpAnyH_ready (rs := [6]) (by kernel_rfl) (by simp) ?_
      refine AllReadyH.cons rfl (fun K0 hK0 => ?_) AllReadyH.nil
      go_simp
      refine hK0.out _ _ ?hS8b (fun hHeld1 => ?_)
      case hS8b => exact unhide SK _ (keep_alloc hHeld _)
      clear hK0 K0
      have j8b := below1 u7b (Obj.cells #[.int .i64 0, .bool false, .int .i64 0, .int .i64 0, .string ⟨#[]⟩, .slice none 0 0] 32)
      have z8b : w2.heap.size ≤ u7b.heap.size := hHeld.1.size
      have o8qb := o7qb.below j8b
      have XI8b := hide ((unhide XI7b).below j8b)
      have YI8b := hide ((unhide YI7b).below j8b)
      have o8pb := Own.new u7b 32
      have ne8qb : g7b ≠ u7b.heap.size := Nat.ne_of_lt o7qb.1.1
      generalize u7b.alloc (Obj.cells #[.int .i64 0, .bool false, .int .i64 0, .int .i64 0, .string ⟨#[]⟩, .slice none 0 0] 32) = u8b at *
      generalize u7b.heap.size = g8b at *
      clear j8b
      clear hHeld o7qb XI7b YI7b
      have hHeld := hHeld1
      clear hHeld1
      try simp only [Act.put, List.setIfInBounds_toArray, List.set_cons_zero, List.set_cons_succ]
      refine wpAnyH_ready (rs := [8]) (by kernel_rfl) (by simp) ?_
      refine AllReadyH.cons rfl (fun K0 hK0 => ?_) AllReadyH.nil
      obtain ⟨⟨-, e0, e1, e2, e3, e4, e5⟩, f0, f1, f2, f3, f4, f5⟩ := id o8pb
      simp only [Nat.zero_add] at e0 e1 e2 e3 e4 e5
      go_simp
      clear e0 e1 e2 e3 e4 e5 f0 f1 f2 f3 f4 f5
      refine hK0.out _ _ ?hS9b (fun hHeld1 => ?_)
      case hS9b => exact unhide SK _ (set6 hHeld.1 (by omega) _ _ _ _ _ _)
      clear hK0 K0
      have s9pb := Own.put o8pb 0 false 0 0 ⟨#[]⟩ none 0 0
      have o9qb := Own.other o8qb (show g7b ≠ g8b by first | assumption | exact Ne.symm (by assumption) | (intro e; omega)) (.int .i64 0) (.bool false) (.int .i64 0) (.int .i64 0) (.string ⟨#[]⟩) (.slice none 0 0)
      generalize ((((((u8b.setCell ⟨g8b, 0, none⟩ (.int .i64 0)).setCell ⟨g8b, 1, none⟩ (.bool false)).setCell ⟨g8b, 2, none⟩ (.int .i64 0)).setCell ⟨g8b, 3, none⟩ (.int .i64 0)).setCell ⟨g8b, 4, none⟩ (.string ⟨#[]⟩)).setCell ⟨g8b, 5, none⟩ (.slice none 0 0)) = u9b at *
      clear hHeld o8qb o8pb XI8b YI8b
      have hHeld := hHeld1
      clear hHeld1
      try simp only [Act.put, List.setIfInBounds_toArray, List.set_cons_zero, List.set_cons_succ]
      refine wpAnyH_ready (rs := [9]) (by kernel_rfl) (by simp) ?_
      refine AllReadyH.cons rfl (fun K0 hK0 => ?_) AllReadyH.nil
      obtain ⟨⟨-, e0, e1, e2, e3, e4, e5⟩, f0, f1, f2, f3, f4, f5⟩ := id o9qb
      simp only [Nat.zero_add] at e0 e1 e2 e3 e4 e5
      go_simp
      clear e0 e1 e2 e3 e4 e5 f0 f1 f2 f3 f4 f5
      refine hK0.out _ _ ?hS10b (fun hHeld1 => ?_)
      case hS10b => exact unhide SK _ (set6 hHeld.1 (by omega) _ _ _ _ _ _)
      clear hK0 K0
      have s10qb := Own.put o9qb 0 false 0 0 ⟨#[]⟩ none 0 0
      have s10pb := six_other s9pb (show g8b ≠ g7b by first | assumption | exact Ne.symm (by assumption) | (intro e; omega)) (.int .i64 0) (.bool false) (.int .i64 0) (.int .i64 0) (.string ⟨#[]⟩) (.slice none 0 0)
      generalize ((((((u9b.setCell ⟨g7b, 0, none⟩ (.int .i64 0)).setCell ⟨g7b, 1, none⟩ (.bool false)).setCell ⟨g7b, 2, none⟩ (.int .i64 0)).setCell ⟨g7b, 3, none⟩ (.int .i64 0)).setCell ⟨g7b, 4, none⟩ (.string ⟨#[]⟩)).setCell ⟨g7b, 5, none⟩ (.slice none 0 0)) = u10b at *
      clear hHeld o9qb s9pb
      have hHeld := hHeld1
      clear hHeld1
      try simp only [Act.put, List.setIfInBounds_toArray, List.set_cons_zero, List.set_cons_succ]
      refine wpAnyH_done (by kernel_rfl) ?_ _
      refine NoPanic.normal ?_
      go_wp2_with fail
      go_meet
      exact ⟨_, _, rfl, rfl, s10pb, s10qb, hHeld.1⟩
    ·skip
     go_simp
     refine hK0.out _ _ ?hS11b (fun hHeld1 => ?_)
     case hS11b => exact unhide SK _ (keep_alloc hHeld _)
     clear hK0 K0
     have j11b := below1 u1b (Obj.cells #[.int .i64 0, .bool false, .int .i64 0, .int .i64 0, .string ⟨#[]⟩, .slice none 0 0] 32)
     have z11b : w2.heap.size ≤ u1b.heap.size := hHeld.1.size
     have XI11b := hide ((unhide XI1b).below j11b)
     have YI11b := hide ((unhide YI1b).below j11b)
     have o11pb := Own.new u1b 32
     generalize u1b.alloc (Obj.cells #[.int .i64 0, .bool false, .int .i64 0, .int .i64 0, .string ⟨#[]⟩, .slice none 0 0] 32) = u11b at *
     generalize u1b.heap.size = g11b at *
     clear j11b
     clear hHeld XI1b YI1b
     have hHeld := hHeld1
     clear hHeld1
     try simp only [Act.put, List.setIfInBounds_toArray, List.set_cons_zero, List.set_cons_succ]
     refine wpAnyH_ready (rs := [5, 7]) (by kernel_rfl) (by simp) ?_
     refine AllReadyH.cons rfl (fun K0 hK0 => ?_) (AllReadyH.cons rfl (fun K0 hK0 => ?_) AllReadyH.nil)
     ·skip
      go_simp
      refine (unhide R2 _ (unhide XI11b) (unhide YI11b)).mono ?_
      rintro e u12b ⟨rfl, j12b⟩
      unfold leaf
      dsimp only [VT.val]
      go_wp2_with fail
      refine hK0.out _ _ ?hS12b (fun hHeld1 => ?_)
      case hS12b => exact unhide SK _ (keep_call hHeld j12b)
      clear hK0 K0
      have o12pb := o11pb.below j12b
      have XI12b := hide ((unhide XI11b).below j12b)
      have YI12b := hide ((unhide YI11b).below j12b)
      clear j12b
      clear hHeld o11pb XI11b YI11b
      have hHeld := hHeld1
      clear hHeld1
      try simp only [Act.put, List.setIfInBounds_toArray, List.set_cons_zero, List.set_cons_succ]
      refine wpAnyH_ready (rs := [7]) (by kernel_rfl) (by simp) ?_
      refine AllReadyH.cons rfl (fun K0 hK0 => ?_) AllReadyH.nil
      go_simp
      refine hK0.out _ _ ?hS13b (fun hHeld1 => ?_)
      case hS13b => exact unhide SK _ (keep_alloc hHeld _)
      clear hK0 K0
      have j13b := below1 u12b (Obj.cells #[.int .i64 0, .bool false, .int .i64 0, .int .i64 0, .string ⟨#[]⟩, .slice none 0 0] 32)
      have z13b : w2.heap.size ≤ u12b.heap.size := hHeld.1.size
      have o13pb := o12pb.below j13b
      have XI13b := hide ((unhide XI12b).below j13b)
      have YI13b := hide ((unhide YI12b).below j13b)
      have o13qb := Own.new u12b 32
      have ne13pb : g11b ≠ u12b.heap.size := Nat.ne_of_lt o12pb.1.1
      generalize u12b.alloc (Obj.cells #[.int .i64 0, .bool false, .int .i64 0, .int .i64 0, .string ⟨#[]⟩, .slice none 0 0] 32) = u13b at *
      generalize u12b.heap.size = g13b at *
      clear j13b
      clear hHeld o12pb XI12b YI12b
      have hHeld := hHeld1
      clear hHeld1
      try simp only [Act.put, List.setIfInBounds_toArray, List.set_cons_zero, List.set_cons_succ]
      refine wpAnyH_ready (rs := [8]) (by kernel_rfl) (by simp) ?_
      refine AllReadyH.cons rfl (fun K0 hK0 => ?_) AllReadyH.nil
      obtain ⟨⟨-, e0, e1, e2, e3, e4, e5⟩, f0, f1, f2, f3, f4, f5⟩ := id o13pb
      simp only [Nat.zero_add] at e0 e1 e2 e3 e4 e5
      go_simp
      clear e0 e1 e2 e3 e4 e5 f0 f1 f2 f3 f4 f5
      refine hK0.out _ _ ?hS14b (fun hHeld1 => ?_)
      case hS14b => exact unhide SK _ (set6 hHeld.1 (by omega) _ _ _ _ _ _)
      clear hK0 K0
      have s14pb := Own.put o13pb 0 false 0 0 ⟨#[]⟩ none 0 0
      have o14qb := Own.other o13qb (show g13b ≠ g11b by first | assumption | exact Ne.symm (by assumption) | (intro e; omega)) (.int .i64 0) (.bool false) (.int .i64 0) (.int .i64 0) (.string ⟨#[]⟩) (.slice none 0 0)
      generalize ((((((u13b.setCell ⟨g11b, 0, none⟩ (.int .i64 0)).setCell ⟨g11b, 1, none⟩ (.bool false)).setCell ⟨g11b, 2, none⟩ (.int .i64 0)).setCell ⟨g11b, 3, none⟩ (.int .i64 0)).setCell ⟨g11b, 4, none⟩ (.string ⟨#[]⟩)).setCell ⟨g11b, 5, none⟩ (.slice none 0 0)) = u14b at *
      clear hHeld o13pb o13qb XI13b YI13b
      have hHeld := hHeld1
      clear hHeld1
      try simp only [Act.put, List.setIfInBounds_toArray, List.set_cons_zero, List.set_cons_succ]
      refine wpAnyH_ready (rs := [9]) (by kernel_rfl) (by simp) ?_
      refine AllReadyH.cons rfl (fun K0 hK0 => ?_) AllReadyH.nil
      obtain ⟨⟨-, e0, e1, e2, e3, e4, e5⟩, f0, f1, f2, f3, f4, f5⟩ := id o14qb
      simp only [Nat.zero_add] at e0 e1 e2 e3 e4 e5
      go_simp
      clear e0 e1 e2 e3 e4 e5 f0 f1 f2 f3 f4 f5
      refine hK0.out _ _ ?hS15b (fun hHeld1 => ?_)
      case hS15b => exact unhide SK _ (set6 hHeld.1 (by omega) _ _ _ _ _ _)
      clear hK0 K0
      have s15qb := Own.put o14qb 0 false 0 0 ⟨#[]⟩ none 0 0
      have s15pb := six_other s14pb (show g11b ≠ g13b by first | assumption | exact Ne.symm (by assumption) | (intro e; omega)) (.int .i64 0) (.bool false) (.int .i64 0) (.int .i64 0) (.string ⟨#[]⟩) (.slice none 0 0)
      generalize ((((((u14b.setCell ⟨g13b, 0, none⟩ (.int .i64 0)).setCell ⟨g13b, 1, none⟩ (.bool false)).setCell ⟨g13b, 2, none⟩ (.int .i64 0)).setCell ⟨g13b, 3, none⟩ (.int .i64 0)).setCell ⟨g13b, 4, none⟩ (.string ⟨#[]⟩)).setCell ⟨g13b, 5, none⟩ (.slice none 0 0)) = u15b at *
      clear hHeld o14qb s14pb
      have hHeld := hHeld1
      clear hHeld1
      try simp only [Act.put, List.setIfInBounds_toArray, List.set_cons_zero, List.set_cons_succ]
      refine wpAnyH_done (by kernel_rfl) ?_ _
      refine NoPanic.normal ?_
      go_wp2_with fail
      go_meet
      exact ⟨_, _, rfl, rfl, s15pb, s15qb, hHeld.1⟩
     ·skip
      go_simp
      refine hK0.out _ _ ?hS16b (fun hHeld1 => ?_)
      case hS16b => exact unhide SK _ (keep_alloc hHeld _)
      clear hK0 K0
      have j16b := below1 u11b (Obj.cells #[.int .i64 0, .bool false, .int .i64 0, .int .i64 0, .string ⟨#[]⟩, .slice none 0 0] 32)
      have z16b : w2.heap.size ≤ u11b.heap.size := hHeld.1.size
      have o16pb := o11pb.below j16b
      have XI16b := hide ((unhide XI11b).below j16b)
      have YI16b := hide ((unhide YI11b).below j16b)
      have o16qb := Own.new u11b 32
      have ne16pb : g11b ≠ u11b.heap.size := Nat.ne_of_lt o11pb.1.1
      generalize u11b.alloc (Obj.cells #[.int .i64 0, .bool false, .int .i64 0, .int .i64 0, .string ⟨#[]⟩, .slice none 0 0] 32) = u16b at *
      generalize u11b.heap.size = g16b at *
      clear j16b
      clear hHeld o11pb XI11b YI11b
      have hHeld := hHeld1
      clear hHeld1
      try simp only [Act.put, List.setIfInBounds_toArray, List.set_cons_zero, List.set_cons_succ]
      refine wpAnyH_ready (rs := [5]) (by kernel_rfl) (by simp) ?_
      refine AllReadyH.cons rfl (fun K0 hK0 => ?_) AllReadyH.nil
      go_simp
      refine (unhide R2 _ (unhide XI16b) (unhide YI16b)).mono ?_
      rintro e u17b ⟨rfl, j17b⟩
      unfold leaf
      dsimp only [VT.val]
      go_wp2_with fail
      refine hK0.out _ _ ?hS17b (fun hHeld1 => ?_)
      case hS17b => exact unhide SK _ (keep_call hHeld j17b)
      clear hK0 K0
      have o17pb := o16pb.below j17b
      have o17qb := o16qb.below j17b
      have XI17b := hide ((unhide XI16b).below j17b)
      have YI17b := hide ((unhide YI16b).below j17b)
      clear j17b
      clear hHeld o16pb o16qb XI16b YI16b
      have hHeld := hHeld1
      clear hHeld1
      try simp only [Act.put, List.setIfInBounds_toArray, List.set_cons_zero, List.set_cons_succ]
      refine wpAnyH_ready (rs := [8]) (by kernel_rfl) (by simp) ?_
      refine AllReadyH.cons rfl (fun K0 hK0 => ?_) AllReadyH.nil
      obtain ⟨⟨-, e0, e1, e2, e3, e4, e5⟩, f0, f1, f2, f3, f4, f5⟩ := id o17pb
      simp only [Nat.zero_add] at e0 e1 e2 e3 e4 e5
      go_simp
      clear e0 e1 e2 e3 e4 e5 f0 f1 f2 f3 f4 f5
      refine hK0.out _ _ ?hS18b (fun hHeld1 => ?_)
      case hS18b => exact unhide SK _ (set6 hHeld.1 (by omega) _ _ _ _ _ _)
      clear hK0 K0
      have s18pb := Own.put o17pb 0 false 0 0 ⟨#[]⟩ none 0 0
      have o18qb := Own.other o17qb (show g16b ≠ g11b by first | assumption | exact Ne.symm (by assumption) | (intro e; omega)) (.int .i64 0) (.bool false) (.int .i64 0) (.int .i64 0) (.string ⟨#[]⟩) (.slice none 0 0)
      generalize ((((((u17b.setCell ⟨g11b, 0, none⟩ (.int .i64 0)).setCell ⟨g11b, 1, none⟩ (.bool false)).setCell ⟨g11b, 2, none⟩ (.int .i64 0)).setCell ⟨g11b, 3, none⟩ (.int .i64 0)).setCell ⟨g11b, 4, none⟩ (.string ⟨#[]⟩)).setCell ⟨g11b, 5, none⟩ (.slice none 0 0)) = u18b at *
      clear hHeld o17pb o17qb XI17b YI17b
      have hHeld := hHeld1
      clear hHeld1
      try simp only [Act.put, List.setIfInBounds_toArray, List.set_cons_zero, List.set_cons_succ]
      refine wpAnyH_ready (rs := [9]) (by kernel_rfl) (by simp) ?_
      refine AllReadyH.cons rfl (fun K0 hK0 => ?_) AllReadyH.nil
      obtain ⟨⟨-, e0, e1, e2, e3, e4, e5⟩, f0, f1, f2, f3, f4, f5⟩ := id o18qb
      simp only [Nat.zero_add] at e0 e1 e2 e3 e4 e5
      go_simp
      clear e0 e1 e2 e3 e4 e5 f0 f1 f2 f3 f4 f5
      refine hK0.out _ _ ?hS19b (fun hHeld1 => ?_)
      case hS19b => exact unhide SK _ (set6 hHeld.1 (by omega) _ _ _ _ _ _)
      clear hK0 K0
      have s19qb := Own.put o18qb 0 false 0 0 ⟨#[]⟩ none 0 0
      have s19pb := six_other s18pb (show g11b ≠ g16b by first | assumption | exact Ne.symm (by assumption) | (intro e; omega)) (.int .i64 0) (.bool false) (.int .i64 0) (.int .i64 0) (.string ⟨#[]⟩) (.slice none 0 0)
      generalize ((((((u18b.setCell ⟨g16b, 0, none⟩ (.int .i64 0)).setCell ⟨g16b, 1, none⟩ (.bool false)).setCell ⟨g16b, 2, none⟩ (.int .i64 0)).setCell ⟨g16b, 3, none⟩ (.int .i64 0)).setCell ⟨g16b, 4, none⟩ (.string ⟨#[]⟩)).setCell ⟨g16b, 5, none⟩ (.slice none 0 0)) = u19b at *
      clear hHeld o18qb s18pb
      have hHeld := hHeld1
      clear hHeld1
      try simp only [Act.put, List.setIfInBounds_toArray, List.set_cons_zero, List.set_cons_succ]
      refine wpAnyH_done (by kernel_rfl) ?_ _
      refine NoPanic.normal ?_
      go_wp2_with fail
      go_meet
      exact ⟨_, _, rfl, rfl, s19pb, s19qb, hHeld.1⟩
    ·skip
     go_simp
     refine hK0.out _ _ ?hS20b (fun hHeld1 => ?_)
     case hS20b => exact unhide SK _ (keep_alloc hHeld _)
     clear hK0 K0
     have j20b := below1 u1b (Obj.cells #[.int .i64 0, .bool false, .int .i64 0, .int .i64 0, .string ⟨#[]⟩, .slice none 0 0] 32)
     have z20b : w2.heap.size ≤ u1b.heap.size := hHeld.1.size
     have XI20b := hide ((unhide XI1b).below j20b)
     have YI20b := hide ((unhide YI1b).below j20b)
     have o20qb := Own.new u1b 32
     generalize u1b.alloc (Obj.cells #[.int .i64 0, .bool false, .int .i64 0, .int .i64 0, .string ⟨#[]⟩, .slice none 0 0] 32) = u20b at *
     generalize u1b.heap.size = g20b at *
     clear j20b
     clear hHeld XI1b YI1b
     have hHeld := hHeld1
     clear hHeld1
     try simp only [Act.put, List.setIfInBounds_toArray, List.set_cons_zero, List.set_cons_succ]
     refine wpAnyH_ready (rs := [5, 6]) (by kernel_rfl) (by simp) ?_
     refine AllReadyH.cons rfl (fun K0 hK0 => ?_) (AllReadyH.cons rfl (fun K0 hK0 => ?_) AllReadyH.nil)
     ·skip
      go_simp
      refine (unhide R2 _ (unhide XI20b) (unhide YI20b)).mono ?_
      rintro e u21b ⟨rfl, j21b⟩
      unfold leaf
      dsimp only [VT.val]
      go_wp2_with fail
      refine hK0.out _ _ ?hS21b (fun hHeld1 => ?_)
      case hS21b => exact unhide SK _ (keep_call hHeld j21b)
      clear hK0 K0
      have o21qb := o20qb.below j21b
      have XI21b := hide ((unhide XI20b).below j21b)
      have YI21b := hide ((unhide YI20b).below j21b)
      clear j21b
      clear hHeld o20qb XI20b YI20b
      have hHeld := hHeld1
      clear hHeld1
      try simp only [Act.put, List.setIfInBounds_toArray, List.set_cons_zero, List.set_cons_succ]
      refine wpAnyH_ready (rs := [6]) (by kernel_rfl) (by simp) ?_
      refine AllReadyH.cons rfl (fun K0 hK0 => ?_) AllReadyH.nil
      go_simp
      refine hK0.out _ _ ?hS22b (fun hHeld1 => ?_)
      case hS22b => exact unhide SK _ (keep_alloc hHeld _)
      clear hK0 K0
      have j22b := below1 u21b (Obj.cells #[.int .i64 0, .bool false, .int .i64 0, .int .i64 0, .string ⟨#[]⟩, .slice none 0 0] 32)
      have z22b : w2.heap.size ≤ u21b.heap.size := hHeld.1.size
      have o22qb := o21qb.below j22b
      have XI22b := hide ((unhide XI21b).below j22b)
      have YI22b := hide ((unhide YI21b).below j22b)
      have o22pb := Own.new u21b 32
      have ne22qb : g20b ≠ u21b.heap.size := Nat.ne_of_lt o21qb.1.1
      generalize u21b.alloc (Obj.cells #[.int .i64 0, .bool false, .int .i64 0, .int .i64 0, .string ⟨#[]⟩, .slice none 0 0] 32) = u22b at *
      generalize u21b.heap.size = g22b at *
      clear j22b
      clear hHeld o21qb XI21b YI21b
      have hHeld := hHeld1
      clear hHeld1
      try simp only [Act.put, List.setIfInBounds_toArray, List.set_cons_zero, List.set_cons_succ]
      refine wpAnyH_ready (rs := [8]) (by kernel_rfl) (by simp) ?_
      refine AllReadyH.cons rfl (fun K0 hK0 => ?_) AllReadyH.nil
      obtain ⟨⟨-, e0, e1, e2, e3, e4, e5⟩, f0, f1, f2, f3, f4, f5⟩ := id o22pb
      simp only [Nat.zero_add] at e0 e1 e2 e3 e4 e5
      go_simp
      clear e0 e1 e2 e3 e4 e5 f0 f1 f2 f3 f4 f5
      refine hK0.out _ _ ?hS23b (fun hHeld1 => ?_)
      case hS23b => exact unhide SK _ (set6 hHeld.1 (by omega) _ _ _ _ _ _)
      clear hK0 K0
      have s23pb := Own.put o22pb 0 false 0 0 ⟨#[]⟩ none 0 0
      have o23qb := Own.other o22qb (show g20b ≠ g22b by first | assumption | exact Ne.symm (by assumption) | (intro e; omega)) (.int .i64 0) (.bool false) (.int .i64 0) (.int .i64 0) (.string ⟨#[]⟩) (.slice none 0 0)
      generalize ((((((u22b.setCell ⟨g22b, 0, none⟩ (.int .i64 0)).setCell ⟨g22b, 1, none⟩ (.bool false)).setCell ⟨g22b, 2, none⟩ (.int .i64 0)).setCell ⟨g22b, 3, none⟩ (.int .i64 0)).setCell ⟨g22b, 4, none⟩ (.string ⟨#[]⟩)).setCell ⟨g22b, 5, none⟩ (.slice none 0 0)) = u23b at *
      clear hHeld o22qb o22pb XI22b YI22b
      have hHeld := hHeld1
      clear hHeld1
      try simp only [Act.put, List.setIfInBounds_toArray, List.set_cons_zero, List.set_cons_succ]
      refine wpAnyH_ready (rs := [9]) (by kernel_rfl) (by simp) ?_
      refine AllReadyH.cons rfl (fun K0 hK0 => ?_) AllReadyH.nil
      obtain ⟨⟨-, e0, e1, e2, e3, e4, e5⟩, f0, f1, f2, f3, f4, f5⟩ := id o23qb
      simp only [Nat.zero_add] at e0 e1 e2 e3 e4 e5
      go_simp
      clear e0 e1 e2 e3 e4 e5 f0 f1 f2 f3 f4 f5
      refine hK0.out _ _ ?hS24b (fun hHeld1 => ?_)
      case hS24b => exact unhide SK _ (set6 hHeld.1 (by omega) _ _ _ _ _ _)
      clear hK0 K0
      have s24qb := Own.put o23qb 0 false 0 0 ⟨#[]⟩ none 0 0
      have s24pb := six_other s23pb (show g22b ≠ g20b by first | assumption | exact Ne.symm (by assumption) | (intro e; omega)) (.int .i64 0) (.bool false) (.int .i64 0) (.int .i64 0) (.string ⟨#[]⟩) (.slice none 0 0)
      generalize ((((((u23b.setCell ⟨g20b, 0, none⟩ (.int .i64 0)).setCell ⟨g20b, 1, none⟩ (.bool false)).setCell ⟨g20b, 2, none⟩ (.int .i64 0)).setCell ⟨g20b, 3, none⟩ (.int .i64 0)).setCell ⟨g20b, 4, none⟩ (.string ⟨#[]⟩)).setCell ⟨g20b, 5, none⟩ (.slice none 0 0)) = u24b at *
      clear hHeld o23qb s23pb
      have hHeld := hHeld1
      clear hHeld1
      try simp only [Act.put, List.setIfInBounds_toArray, List.set_cons_zero, List.set_cons_succ]
      refine wpAnyH_done (by kernel_rfl) ?_ _
      refine NoPanic.normal ?_
      go_wp2_with fail
      go_meet
      exact ⟨_, _, rfl, rfl, s24pb, s24qb, hHeld.1⟩
     ·skip
      go_simp
      refine hK0.out _ _ ?hS25b (fun hHeld1 => ?_)
      case hS25b => exact unhide SK _ (keep_alloc hHeld _)
      clear hK0 K0
      have j25b := below1 u20b (Obj.cells #[.int .i64 0, .bool false, .int .i64 0, .int .i64 0, .string ⟨#[]⟩, .slice none 0 0] 32)
      have z25b : w2.heap.size ≤ u20b.heap.size := hHeld.1.size
      have o25qb := o20qb.below j25b
      have XI25b := hide ((unhide XI20b).below j25b)
      have YI25b := hide ((unhide YI20b).below j25b)
      have o25pb := Own.new u20b 32
      have ne25qb : g20b ≠ u20b.heap.size := Nat.ne_of_lt o20qb.1.1
      generalize u20b.alloc (Obj.cells #[.int .i64 0, .bool false, .int .i64 0, .int .i64 0, .string ⟨#[]⟩, .slice none 0 0] 32) = u25b at *
      generalize u20b.heap.size = g25b at *
      clear j25b
      clear hHeld o20qb XI20b YI20b
      have hHeld := hHeld1
      clear hHeld1
      try simp only [Act.put, List.setIfInBounds_toArray, List.set_cons_zero, List.set_cons_succ]
      refine wpAnyH_ready (rs := [5]) (by kernel_rfl) (by simp) ?_
      refine AllReadyH.cons rfl (fun K0 hK0 => ?_) AllReadyH.nil
      go_simp
      refine (unhide R2 _ (unhide XI25b) (unhide YI25b)).mono ?_
      rintro e u26b ⟨rfl, j26b⟩
      unfold leaf
      dsimp only [VT.val]
      go_wp2_with fail
      refine hK0.out _ _ ?hS26b (fun hHeld1 => ?_)
      case hS26b => exact unhide SK _ (keep_call hHeld j26b)
      clear hK0 K0
      have o26qb := o25qb.below j26b
      have o26pb := o25pb.below j26b
      have XI26b := hide ((unhide XI25b).below j26b)
      have YI26b := hide ((unhide YI25b).below j26b)
      clear j26b
      clear hHeld o25qb o25pb XI25b YI25b
      have hHeld := hHeld1
      clear hHeld1
      try simp only [Act.put, List.setIfInBounds_toArray, List.set_cons_zero, List.set_cons_succ]
      refine wpAnyH_ready (rs := [8]) (by kernel_rfl) (by simp) ?_
      refine AllReadyH.cons rfl (fun K0 hK0 => ?_) AllReadyH.nil
      obtain ⟨⟨-, e0, e1, e2, e3, e4, e5⟩, f0, f1, f2, f3, f4, f5⟩ := id o26pb
      simp only [Nat.zero_add] at e0 e1 e2 e3 e4 e5
      go_simp
      clear e0 e1 e2 e3 e4 e5 f0 f1 f2 f3 f4 f5
      refine hK0.out _ _ ?hS27b (fun hHeld1 => ?_)
      case hS27b => exact unhide SK _ (set6 hHeld.1 (by omega) _ _ _ _ _ _)
      clear hK0 K0
      have s27pb := Own.put o26pb 0 false 0 0 ⟨#[]⟩ none 0 0
      have o27qb := Own.other o26qb (show g20b ≠ g25b by first | assumption | exact Ne.symm (by assumption) | (intro e; omega)) (.int .i64 0) (.bool false) (.int .i64 0) (.int .i64 0) (.string ⟨#[]⟩) (.slice none 0 0)
      generalize ((((((u26b.setCell ⟨g25b, 0, none⟩ (.int .i64 0)).setCell ⟨g25b, 1, none⟩ (.bool false)).setCell ⟨g25b, 2, none⟩ (.int .i64 0)).setCell ⟨g25b, 3, none⟩ (.int .i64 0)).setCell ⟨g25b, 4, none⟩ (.string ⟨#[]⟩)).setCell ⟨g25b, 5, none⟩ (.slice none 0 0)) = u27b at *
      clear hHeld o26qb o26pb XI26b YI26b
      have hHeld := hHeld1
      clear hHeld1
      try simp only [Act.put, List.setIfInBounds_toArray, List.set_cons_zero, List.set_cons_succ]
      refine wpAnyH_ready (rs := [9]) (by kernel_rfl) (by simp) ?_
      refine AllReadyH.cons rfl (fun K0 hK0 => ?_) AllReadyH.nil
      obtain ⟨⟨-, e0, e1, e2, e3, e4, e5⟩, f0, f1, f2, f3, f4, f5⟩ := id o27qb
      simp only [Nat.zero_add] at e0 e1 e2 e3 e4 e5
      go_simp
      clear e0 e1 e2 e3 e4 e5 f0 f1 f2 f3 f4 f5
      refine hK0.out _ _ ?hS28b (fun hHeld1 => ?_)
      case hS28b => exact unhide SK _ (set6 hHeld.1 (by omega) _ _ _ _ _ _)
      clear hK0 K0
      have s28qb := Own.put o27qb 0 false 0 0 ⟨#[]⟩ none 0 0
      have s28pb := six_other s27pb (show g25b ≠ g20b by first | assumption | exact Ne.symm (by assumption) | (intro e; omega)) (.int .i64 0) (.bool false) (.int .i64 0) (.int .i64 0) (.string ⟨#[]⟩) (.slice none 0 0)
      generalize ((((((u27b.setCell ⟨g20b, 0, none⟩ (.int .i64 0)).setCell ⟨g20b, 1, none⟩ (.bool false)).setCell ⟨g20b, 2, none⟩ (.int .i64 0)).setCell ⟨g20b, 3, none⟩ (.int .i64 0)).setCell ⟨g20b, 4, none⟩ (.string ⟨#[]⟩)).setCell ⟨g20b, 5, none⟩ (.slice none 0 0)) = u28b at *
      clear hHeld o27qb s27pb
      have hHeld := hHeld1
      clear hHeld1
      try simp only [Act.put, List.setIfInBounds_toArray, List.set_cons_zero, List.set_cons_succ]
      refine wpAnyH_done (by kernel_rfl) ?_ _
      refine NoPanic.normal ?_
      go_wp2_with fail
      go_meet
      exact ⟨_, _, rfl, rfl, s28pb, s28qb, hHeld.1⟩
   ·skip
    go_simp
    refine hK0.out _ _ ?hS29b (fun hHeld1 => ?_)
    case hS29b => exact unhide SK _ (keep_alloc hHeld _)
    clear hK0 K0
    have j29b := below1 u0b (Obj.cells #[.int .i64 0, .bool false, .int .i64 0, .int .i64 0, .string ⟨#[]⟩, .slice none 0 0] 32)
    have z29b : w2.heap.size ≤ u0b.heap.size := hHeld.1.size
    have XI29b := hide ((unhide XI0b).below j29b)
    have YI29b := hide ((unhide YI0b).below j29b)
    have o29pb := Own.new u0b 32
    generalize u0b.alloc (Obj.cells #[.int .i64 0, .bool false, .int .i64 0, .int .i64 0, .string ⟨#[]⟩, .slice none 0 0] 32) = u29b at *
    generalize u0b.heap.size = g29b at *
    clear j29b
    clear hHeld XI0b YI0b
    have hHeld := hHeld1
    clear hHeld1
    try simp only [Act.put, List.setIfInBounds_toArray, List.set_cons_zero, List.set_cons_succ]
    refine wpAnyH_ready (rs := [2, 7]) (by kernel_rfl) (by simp) ?_
    refine AllReadyH.cons rfl (fun K0 hK0 => ?_) (AllReadyH.cons rfl (fun K0 hK0 => ?_) AllReadyH.nil)
    ·skip
     go_simp
     refine (unhide R1 _ (unhide XI29b) (unhide YI29b)).mono ?_
     rintro e u30b ⟨rfl, j30b⟩
     unfold leaf
     dsimp only [VT.val]
     go_wp2_with fail
     refine hK0.out _ _ ?hS30b (fun hHeld1 => ?_)
     case hS30b => exact unhide SK _ (keep_call hHeld j30b)
     clear hK0 K0
     have o30pb := o29pb.below j30b
     have XI30b := hide ((unhide XI29b).below j30b)
     have YI30b := hide ((unhide YI29b).below j30b)
     clear j30b
     clear hHeld o29pb XI29b YI29b
     have hHeld := hHeld1
     clear hHeld1
     try simp only [Act.put, List.setIfInBounds_toArray, List.set_cons_zero, List.set_cons_succ]
     refine wpAnyH_ready (rs := [5, 7]) (by kernel_rfl) (by simp) ?_
     refine AllReadyH.cons rfl (fun K0 hK0 => ?_) (AllReadyH.cons rfl (fun K0 hK0 => ?_) AllReadyH.nil)
     ·skip
      go_simp
      refine (unhide R2 _ (unhide XI30b) (unhide YI30b)).mono ?_
      rintro e u31b ⟨rfl, j31b⟩
      unfold leaf
      dsimp only [VT.val]
      go_wp2_with fail
      refine hK0.out _ _ ?hS31b (fun hHeld1 => ?_)
      case hS31b => exact unhide SK _ (keep_call hHeld j31b)
      clear hK0 K0
      have o31pb := o30pb.below j31b
      have XI31b := hide ((unhide XI30b).below j31b)
      have YI31b := hide ((unhide YI30b).below j31b)
      clear j31b
      clear hHeld o30pb XI30b YI30b
      have hHeld := hHeld1
      clear hHeld1
      try simp only [Act.put, List.setIfInBounds_toArray, List.set_cons_zero, List.set_cons_succ]
      refine wpAnyH_ready (rs := [7]) (by kernel_rfl) (by simp) ?_
      refine AllReadyH.cons rfl (fun K0 hK0 => ?_) AllReadyH.nil
      go_simp
      refine hK0.out _ _ ?hS32b (fun hHeld1 => ?_)
      case hS32b => exact unhide SK _ (keep_alloc hHeld _)
      clear hK0 K0
      have j32b := below1 u31b (Obj.cells #[.int .i64 0, .bool false, .int .i64 0, .int .i64 0, .string ⟨#[]⟩, .slice none 0 0] 32)
      have z32b : w2.heap.size ≤ u31b.heap.size := hHeld.1.size
      have o32pb := o31pb.below j32b
      have XI32b := hide ((unhide XI31b).below j32b)
      have YI32b := hide ((unhide YI31b).below j32b)
      have o32qb := Own.new u31b 32
      have ne32pb : g29b ≠ u31b.heap.size := Nat.ne_of_lt o31pb.1.1
      generalize u31b.alloc (Obj.cells #[.int .i64 0, .bool false, .int .i64 0, .int .i64 0, .string ⟨#[]⟩, .slice none 0 0] 32) = u32b at *
      generalize u31b.heap.size = g32b at *
      clear j32b
      clear hHeld o31pb XI31b YI31b
      have hHeld := hHeld1
      clear hHeld1
      try simp only [Act.put, List.setIfInBounds_toArray, List.set_cons_zero, List.set_cons_succ]
      refine wpAnyH_ready (rs := [8]) (by kernel_rfl) (by simp) ?_
      refine AllReadyH.cons rfl (fun K0 hK0 => ?_) AllReadyH.nil
      obtain ⟨⟨-, e0, e1, e2, e3, e4, e5⟩, f0, f1, f2, f3, f4, f5⟩ := id o32pb
      simp only [Nat.zero_add] at e0 e1 e2 e3 e4 e5
      go_simp
      clear e0 e1 e2 e3 e4 e5 f0 f1 f2 f3 f4 f5
      refine hK0.out _ _ ?hS33b (fun hHeld1 => ?_)
      case hS33b => exact unhide SK _ (set6 hHeld.1 (by omega) _ _ _ _ _ _)
      clear hK0 K0
      have s33pb := Own.put o32pb 0 false 0 0 ⟨#[]⟩ none 0 0
      have o33qb := Own.other o32qb (show g32b ≠ g29b by first | assumption | exact Ne.symm (by assumption) | (intro e; omega)) (.int .i64 0) (.bool false) (.int .i64 0) (.int .i64 0) (.string ⟨#[]⟩) (.slice none 0 0)
      generalize ((((((u32b.setCell ⟨g29b, 0, none⟩ (.int .i64 0)).setCell ⟨g29b, 1, none⟩ (.bool false)).setCell ⟨g29b, 2, none⟩ (.int .i64 0)).setCell ⟨g29b, 3, none⟩ (.int .i64 0)).setCell ⟨g29b, 4, none⟩ (.string ⟨#[]⟩)).setCell ⟨g29b, 5, none⟩ (.slice none 0 0)) = u33b at *
      clear hHeld o32pb o32qb XI32b YI32b
      have hHeld := hHeld1
      clear hHeld1
      try simp only [Act.put, List.setIfInBounds_toArray, List.set_cons_zero, List.set_cons_succ]
      refine wpAnyH_ready (rs := [9]) (by kernel_rfl) (by simp) ?_
      refine AllReadyH.cons rfl (fun K0 hK0 => ?_) AllReadyH.nil
      obtain ⟨⟨-, e0, e1, e2, e3, e4, e5⟩, f0, f1, f2, f3, f4, f5⟩ := id o33qb
      simp only [Nat.zero_add] at e0 e1 e2 e3 e4 e5
      go_simp
      clear e0 e1 e2 e3 e4 e5 f0 f1 f2 f3 f4 f5
      refine hK0.out _ _ ?hS34b (fun hHeld1 => ?_)
      case hS34b => exact unhide SK _ (set6 hHeld.1 (by omega) _ _ _ _ _ _)
      clear hK0 K0
      have s34qb := Own.put o33qb 0 false 0 0 ⟨#[]⟩ none 0 0
      have s34pb := six_other s33pb (show g29b ≠ g32b by first | assumption | exact Ne.symm (by assumption) | (intro e; omega)) (.int .i64 0) (.bool false) (.int .i64 0) (.int .i64 0) (.string ⟨#[]⟩) (.slice none 0 0)
      generalize ((((((u33b.setCell ⟨g32b, 0, none⟩ (.int .i64 0)).setCell ⟨g32b, 1, none⟩ (.bool false)).setCell ⟨g32b, 2, none⟩ (.int .i64 0)).setCell ⟨g32b, 3, none⟩ (.int .i64 0)).setCell ⟨g32b, 4, none⟩ (.string ⟨#[]⟩)).setCell ⟨g32b, 5, none⟩ (.slice none 0 0)) = u34b at *
      clear hHeld o33qb s33pb
      have hHeld := hHeld1
      clear hHeld1
      try simp only [Act.put, List.setIfInBounds_toArray, List.set_cons_zero, List.set_cons_succ]
      refine wpAnyH_done (by kernel_rfl) ?_ _
      refine NoPanic.normal ?_
      go_wp2_with fail
      go_meet
      exact ⟨_, _, rfl, rfl, s34pb, s34qb, hHeld.1⟩
     ·skip
      go_simp
      refine hK0.out _ _ ?hS35b (fun hHeld1 => ?_)
      case hS35b => exact unhide SK _ (keep_alloc hHeld _)
      clear hK0 K0
      have j35b := below1 u30b (Obj.cells #[.int .i64 0, .bool false, .int .i64 0, .int .i64 0, .string ⟨#[]⟩, .slice none 0 0] 32)
      have z35b : w2.heap.size ≤ u30b.heap.size := hHeld.1.size
      have o35pb := o30pb.below j35b
      have XI35b := hide ((unhide XI30b).below j35b)
      have YI35b := hide ((unhide YI30b).below j35b)
      have o35qb := Own.new u30b 32
      have ne35pb : g29b ≠ u30b.heap.size := Nat.ne_of_lt o30pb.1.1
      generalize u30b.alloc (Obj.cells #[.int .i64 0, .bool false, .int .i64 0, .int .i64 0, .string ⟨#[]⟩, .slice none 0 0] 32) = u35b at *
      generalize u30b.heap.size = g35b at *
      clear j35b
      clear hHeld o30pb XI30b YI30b
      have hHeld := hHeld1
      clear hHeld1
      try simp only [Act.put, List.setIfInBounds_toArray, List.set_cons_zero, List.set_cons_succ]
      refine wpAnyH_ready (rs := [5]) (by kernel_rfl) (by simp) ?_
      refine AllReadyH.cons rfl (fun K0 hK0 => ?_) AllReadyH.nil
      go_simp
      refine (unhide R2 _ (unhide XI35b) (unhide YI35b)).mono ?_
      rintro e u36b ⟨rfl, j36b⟩
      unfold leaf
      dsimp only [VT.val]
      go_wp2_with fail
      refine hK0.out _ _ ?hS36b (fun hHeld1 => ?_)
      case hS36b => exact unhide SK _ (keep_call hHeld j36b)
      clear hK0 K0
      have o36pb := o35pb.below j36b
      have o36qb := o35qb.below j36b
      have XI36b := hide ((unhide XI35b).below j36b)
      have YI36b := hide ((unhide YI35b).below j36b)
      clear j36b
      clear hHeld o35pb o35qb XI35b YI35b
      have hHeld := hHeld1
      clear hHeld1
      try simp only [Act.put, List.setIfInBounds_toArray, List.set_cons_zero, List.set_cons_succ]
      refine wpAnyH_ready (rs := [8]) (by kernel_rfl) (by simp) ?_
      refine AllReadyH.cons rfl (fun K0 hK0 => ?_) AllReadyH.nil
      obtain ⟨⟨-, e0, e1, e2, e3, e4, e5⟩, f0, f1, f2, f3, f4, f5⟩ := id o36pb
      simp only [Nat.zero_add] at e0 e1 e2 e3 e4 e5
      go_simp
      clear e0 e1 e2 e3 e4 e5 f0 f1 f2 f3 f4 f5
      refine hK0.out _ _ ?hS37b (fun hHeld1 => ?_)
      case hS37b => exact unhide SK _ (set6 hHeld.1 (by omega) _ _ _ _ _ _)
      clear hK0 K0
      have s37pb := Own.put o36pb 0 false 0 0 ⟨#[]⟩ none 0 0
      have o37qb := Own.other o36qb (show g35b ≠ g29b by first | assumption | exact Ne.symm (by assumption) | (intro e; omega)) (.int .i64 0) (.bool false) (.int .i64 0) (.int .i64 0) (.string ⟨#[]⟩) (.slice none 0 0)
      generalize ((((((u36b.setCell ⟨g29b, 0, none⟩ (.int .i64 0)).setCell ⟨g29b, 1, none⟩ (.bool false)).setCell ⟨g29b, 2, none⟩ (.int .i64 0)).setCell ⟨g29b, 3, none⟩ (.int .i64 0)).setCell ⟨g29b, 4, none⟩ (.string ⟨#[]⟩)).setCell ⟨g29b, 5, none⟩ (.slice none 0 0)) = u37b at *
      clear hHeld o36pb o36qb XI36b YI36b
      have hHeld := hHeld1
      clear hHeld1
      try simp only [Act.put, List.setIfInBounds_toArray, List.set_cons_zero, List.set_cons_succ]
      refine wpAnyH_ready (rs := [9]) (by kernel_rfl) (by simp) ?_
      refine AllReadyH.cons rfl (fun K0 hK0 => ?_) AllReadyH.nil
      obtain ⟨⟨-, e0, e1, e2, e3, e4, e5⟩, f0, f1, f2, f3, f4, f5⟩ := id o37qb
      simp only [Nat.zero_add] at e0 e1 e2 e3 e4 e5
      go_simp
      clear e0 e1 e2 e3 e4 e5 f0 f1 f2 f3 f4 f5
      refine hK0.out _ _ ?hS38b (fun hHeld1 => ?_)
      case hS38b => exact unhide SK _ (set6 hHeld.1 (by omega) _ _ _ _ _ _)
      clear hK0 K0
      have s38qb := Own.put o37qb 0 false 0 0 ⟨#[]⟩ none 0 0
      have s38pb := six_other s37pb (show g29b ≠ g35b by first | assumption | exact Ne.symm (by assumption) | (intro e; omega)) (.int .i64 0) (.bool false) (.int .i64 0) (.int .i64 0) (.string ⟨#[]⟩) (.slice none 0 0)
      generalize ((((((u37b.setCell ⟨g35b, 0, none⟩ (.int .i64 0)).setCell ⟨g35b, 1, none⟩ (.bool false)).setCell ⟨g35b, 2, none⟩ (.int .i64 0)).setCell ⟨g35b, 3, none⟩ (.int .i64 0)).setCell ⟨g35b, 4, none⟩ (.string ⟨#[]⟩)).setCell ⟨g35b, 5, none⟩ (.slice none 0 0)) = u38b at *
      clear hHeld o37qb s37pb
      have hHeld := hHeld1
      clear hHeld1
      try simp only [Act.put, List.setIfInBounds_toArray, List.set_cons_zero, List.set_cons_succ]
      refine wpAnyH_done (by kernel_rfl) ?_ _
      refine NoPanic.normal ?_
      go_wp2_with fail
      go_meet
      exact ⟨_, _, rfl, rfl, s38pb, s38qb, hHeld.1⟩
    ·skip
     go_simp
     refine hK0.out _ _ ?hS39b (fun hHeld1 => ?_)
     case hS39b => exact unhide SK _ (keep_alloc hHeld _)
     clear hK0 K0
     have j39b := below1 u29b (Obj.cells #[.int .i64 0, .bool false, .int .i64 0, .int .i64 0, .string ⟨#[]⟩, .slice none 0 0] 32)
     have z39b : w2.heap.size ≤ u29b.heap.size := hHeld.1.size
     have o39pb := o29pb.below j39b
     have XI39b := hide ((unhide XI29b).below j39b)
     have YI39b := hide ((unhide YI29b).below j39b)
     have o39qb := Own.new u29b 32
     have ne39pb : g29b ≠ u29b.heap.size := Nat.ne_of_lt o29pb.1.1
     generalize u29b.alloc (Obj.cells #[.int .i64 0, .bool false, .int .i64 0, .int .i64 0, .string ⟨#[]⟩, .slice none 0 0] 32) = u39b at *
     generalize u29b.heap.size = g39b at *
     clear j39b
     clear hHeld o29pb XI29b YI29b
     have hHeld := hHeld1
     clear hHeld1
     try simp only [Act.put, List.setIfInBounds_toArray, List.set_cons_zero, List.set_cons_succ]
     refine wpAnyH_ready (rs := [2]) (by kernel_rfl) (by simp) ?_
     refine AllReadyH.cons rfl (fun K0 hK0 => ?_) AllReadyH.nil
     go_simp
     refine (unhide R1 _ (unhide XI39b) (unhide YI39b)).mono ?_
     rintro e u40b ⟨rfl, j40b⟩
     unfold leaf
     dsimp only [VT.val]
     go_wp2_with fail
     refine hK0.out _ _ ?hS40b (fun hHeld1 => ?_)
     case hS40b => exact unhide SK _ (keep_call hHeld j40b)
     clear hK0 K0
     have o40pb := o39pb.below j40b
     have o40qb := o39qb.below j40b
     have XI40b := hide ((unhide XI39b).below j40b)
     have YI40b := hide ((unhide YI39b).below j40b)
     clear j40b
     clear hHeld o39pb o39qb XI39b YI39b
     have hHeld := hHeld1
     clear hHeld1
     try simp only [Act.put, List.setIfInBounds_toArray, List.set_cons_zero, List.set_cons_succ]
     refine wpAnyH_ready (rs := [5]) (by kernel_rfl) (by simp) ?_
     refine AllReadyH.cons rfl (fun K0 hK0 => ?_) AllReadyH.nil
     go_simp
     refine (unhide R2 _ (unhide XI40b) (unhide YI40b)).mono ?_
     rintro e u41b ⟨rfl, j41b⟩
     unfold leaf
     dsimp only [VT.val]
     go_wp2_with fail
     refine hK0.out _ _ ?hS41b (fun hHeld1 => ?_)
     case hS41b => exact unhide SK _ (keep_call hHeld j41b)
     clear hK0 K0
     have o41pb := o40pb.below j41b
     have o41qb := o40qb.below j41b
     have XI41b := hide ((unhide XI40b).below j41b)
     have YI41b := hide ((unhide YI40b).below j41b)
     clear j41b
     clear hHeld o40pb o40qb XI40b YI40b
     have hHeld := hHeld1
     clear hHeld1
     try simp only [Act.put, List.setIfInBounds_toArray, List.set_cons_zero, List.set_cons_succ]
     refine wpAnyH_ready (rs := [8]) (by kernel_rfl) (by simp) ?_
     refine AllReadyH.cons rfl (fun K0 hK0 => ?_) AllReadyH.nil
     obtain ⟨⟨-, e0, e1, e2, e3, e4, e5⟩, f0, f1, f2, f3, f4, f5⟩ := id o41pb
     simp only [Nat.zero_add] at e0 e1 e2 e3 e4 e5
     go_simp
     clear e0 e1 e2 e3 e4 e5 f0 f1 f2 f3 f4 f5
     refine hK0.out _ _ ?hS42b (fun hHeld1 => ?_)
     case hS42b => exact unhide SK _ (set6 hHeld.1 (by omega) _ _ _ _ _ _)
     clear hK0 K0
     have s42pb := Own.put o41pb 0 false 0 0 ⟨#[]⟩ none 0 0
     have o42qb := Own.other o41qb (show g39b ≠ g29b by first | assumption | exact Ne.symm (by assumption) | (intro e; omega)) (.int .i64 0) (.bool false) (.int .i64 0) (.int .i64 0) (.string ⟨#[]⟩) (.slice none 0 0)
     generalize ((((((u41b.setCell ⟨g29b, 0, none⟩ (.int .i64 0)).setCell ⟨g29b, 1, none⟩ (.bool false)).setCell ⟨g29b, 2, none⟩ (.int .i64 0)).setCell ⟨g29b, 3, none⟩ (.int .i64 0)).setCell ⟨g29b, 4, none⟩ (.string ⟨#[]⟩)).setCell ⟨g29b, 5, none⟩ (.slice none 0 0)) = u42b at *
     clear hHeld o41pb o41qb XI41b YI41b
     have hHeld := hHeld1
     clear hHeld1
     try simp only [Act.put, List.setIfInBounds_toArray, List.set_cons_zero, List.set_cons_succ]
     refine wpAnyH_ready (rs := [9]) (by kernel_rfl) (by simp) ?_
     refine AllReadyH.cons rfl (fun K0 hK0 => ?_) AllReadyH.nil
     obtain ⟨⟨-, e0, e1, e2, e3, e4, e5⟩, f0, f1, f2, f3, f4, f5⟩ := id o42qb
     simp only [Nat.zero_add] at e0 e1 e2 e3 e4 e5
     go_simp
     clear e0 e1 e2 e3 e4 e5 f0 f1 f2 f3 f4 f5
     refine hK0.out _ _ ?hS43b (fun hHeld1 => ?_)
     case hS43b => exact unhide SK _ (set6 hHeld.1 (by omega) _ _ _ _ _ _)
     clear hK0 K0
     have s43qb := Own.put o42qb 0 false 0 0 ⟨#[]⟩ none 0 0
     have s43pb := six_other s42pb (show g29b ≠ g39b by first | assumption | exact Ne.symm (by assumption) | (intro e; omega)) (.int .i64 0) (.bool false) (.int .i64 0) (.int .i64 0) (.string ⟨#[]⟩) (.slice none 0 0)
     generalize ((((((u42b.setCell ⟨g39b, 0, none⟩ (.int .i64 0)).setCell ⟨g39b, 1, none⟩ (.bool false)).setCell ⟨g39b, 2, none⟩ (.int .i64 0)).setCell ⟨g39b, 3, none⟩ (.int .i64 0)).setCell ⟨g39b, 4, none⟩ (.string ⟨#[]⟩)).setCell ⟨g39b, 5, none⟩ (.slice none 0 0)) = u43b at *
     clear hHeld o42qb s42pb
     have hHeld := hHeld1
     clear hHeld1
     try simp only [Act.put, List.setIfInBounds_toArray, List.set_cons_zero, List.set_cons_succ]
     refine wpAnyH_done (by kernel_rfl) ?_ _
     refine NoPanic.normal ?_
     go_wp2_with fail
     go_meet
     exact ⟨_, _, rfl, rfl, s43pb, s43qb, hHeld.1⟩
   ·skip
    go_simp
    refine hK0.out _ _ ?hS44b (fun hHeld1 => ?_)
    case hS44b => exact unhide SK _ (keep_alloc hHeld _)
    clear hK0 K0
    have j44b := below1 u0b (Obj.cells #[.int .i64 0, .bool false, .int .i64 0, .int .i64 0, .string ⟨#[]⟩, .slice none 0 0] 32)
    have z44b : w2.heap.size ≤ u0b.heap.size := hHeld.1.size
    have XI44b := hide ((unhide XI0b).below j44b)
    have YI44b := hide ((unhide YI0b).below j44b)
    have o44qb := Own.new u0b 32
    generalize u0b.alloc (Obj.cells #[.int .i64 0, .bool false, .int .i64 0, .int .i64 0, .string ⟨#[]⟩, .slice none 0 0] 32) = u44b at *
    generalize u0b.heap.size = g44b at *
    clear j44b
    clear hHeld XI0b YI0b
    have hHeld := hHeld1
    clear hHeld1
    try simp only [Act.put, List.setIfInBounds_toArray, List.set_cons_zero, List.set_cons_succ]
    refine wpAnyH_ready (rs := [2, 6]) (by kernel_rfl) (by simp) ?_
    refine AllReadyH.cons rfl (fun K0 hK0 => ?_) (AllReadyH.cons rfl (fun K0 hK0 => ?_) AllReadyH.nil)
    ·skip
     go_simp
     refine (unhide R1 _ (unhide XI44b) (unhide YI44b)).mono ?_
     rintro e u45b ⟨rfl, j45b⟩
     unfold leaf
     dsimp only [VT.val]
     go_wp2_with fail
     refine hK0.out _ _ ?hS45b (fun hHeld1 => ?_)
     case hS45b => exact unhide SK _ (keep_call hHeld j45b)
     clear hK0 K0
     have o45qb := o44qb.below j45b
     have XI45b := hide ((unhide XI44b).below j45b)
     have YI45b := hide ((unhide YI44b).below j45b)
     clear j45b
     clear hHeld o44qb XI44b YI44b
     have hHeld := hHeld1
     clear hHeld1
     try simp only [Act.put, List.setIfInBounds_toArray, List.set_cons_zero, List.set_cons_succ]
     refine wpAnyH_ready (rs := [5, 6]) (by kernel_rfl) (by simp) ?_
     refine AllReadyH.cons rfl (fun K0 hK0 => ?_) (AllReadyH.cons rfl (fun K0 hK0 => ?_) AllReadyH.nil)
     ·skip
      go_simp
      refine (unhide R2 _ (unhide XI45b) (unhide YI45b)).mono ?_
      rintro e u46b ⟨rfl, j46b⟩
      unfold leaf
      dsimp only [VT.val]
      go_wp2_with fail
      refine hK0.out _ _ ?hS46b (fun hHeld1 => ?_)
      case hS46b => exact unhide SK _ (keep_call hHeld j46b)
      clear hK0 K0
      have o46qb := o45qb.below j46b
      have XI46b := hide ((unhide XI45b).below j46b)
      have YI46b := hide ((unhide YI45b).below j46b)
      clear j46b
      clear hHeld o45qb XI45b YI45b
      have hHeld := hHeld1
      clear hHeld1
      try simp only [Act.put, List.setIfInBounds_toArray, List.set_cons_zero, List.set_cons_succ]
      refine wpAnyH_ready (rs := [6]) (by kernel_rfl) (by simp) ?_
      refine AllReadyH.cons rfl (fun K0 hK0 => ?_) AllReadyH.nil
      go_simp
      refine hK0.out _ _ ?hS47b (fun hHeld1 => ?_)
      case hS47b => exact unhide SK _ (keep_alloc hHeld _)
      clear hK0 K0
      have j47b := below1 u46b (Obj.cells #[.int .i64 0, .bool false, .int .i64 0, .int .i64 0, .string ⟨#[]⟩, .slice none 0 0] 32)
      have z47b : w2.heap.size ≤ u46b.heap.size := hHeld.1.size
      have o47qb := o46qb.below j47b
      have XI47b := hide ((unhide XI46b).below j47b)
      have YI47b := hide ((unhide YI46b).below j47b)
      have o47pb := Own.new u46b 32
      have ne47qb : g44b ≠ u46b.heap.size := Nat.ne_of_lt o46qb.1.1
      generalize u46b.alloc (Obj.cells #[.int .i64 0, .bool false, .int .i64 0, .int .i64 0, .string ⟨#[]⟩, .slice none 0 0] 32) = u47b at *
      generalize u46b.heap.size = g47b at *
      clear j47b
      clear hHeld o46qb XI46b YI46b
      have hHeld := hHeld1
      clear hHeld1
      try simp only [Act.put, List.setIfInBounds_toArray, List.set_cons_zero, List.set_cons_succ]
      refine wpAnyH_ready (rs := [8]) (by kernel_rfl) (by simp) ?_
      refine AllReadyH.cons rfl (fun K0 hK0 => ?_) AllReadyH.nil
      obtain ⟨⟨-, e0, e1, e2, e3, e4, e5⟩, f0, f1, f2, f3, f4, f5⟩ := id o47pb
      simp only [Nat.zero_add] at e0 e1 e2 e3 e4 e5
      go_simp
      clear e0 e1 e2 e3 e4 e5 f0 f1 f2 f3 f4 f5
      refine hK0.out _ _ ?hS48b (fun hHeld1 => ?_)
      case hS48b => exact unhide SK _ (set6 hHeld.1 (by omega) _ _ _ _ _ _)
      clear hK0 K0
      have s48pb := Own.put o47pb 0 false 0 0 ⟨#[]⟩ none 0 0
      have o48qb := Own.other o47qb (show g44b ≠ g47b by first | assumption | exact Ne.symm (by assumption) | (intro e; omega)) (.int .i64 0) (.bool false) (.int .i64 0) (.int .i64 0) (.string ⟨#[]⟩) (.slice none 0 0)
      generalize ((((((u47b.setCell ⟨g47b, 0, none⟩ (.int .i64 0)).setCell ⟨g47b, 1, none⟩ (.bool false)).setCell ⟨g47b, 2, none⟩ (.int .i64 0)).setCell ⟨g47b, 3, none⟩ (.int .i64 0)).setCell ⟨g47b, 4, none⟩ (.string ⟨#[]⟩)).setCell ⟨g47b, 5, none⟩ (.slice none 0 0)) = u48b at *
      clear hHeld o47qb o47pb XI47b YI47b
      have hHeld := hHeld1
      clear hHeld1
      try simp only [Act.put, List.setIfInBounds_toArray, List.set_cons_zero, List.set_cons_succ]
      refine wpAnyH_ready (rs := [9]) (by kernel_rfl) (by simp) ?_
      refine AllReadyH.cons rfl (fun K0 hK0 => ?_) AllReadyH.nil
      obtain ⟨⟨-, e0, e1, e2, e3, e4, e5⟩, f0, f1, f2, f3, f4, f5⟩ := id o48qb
      simp only [Nat.zero_add] at e0 e1 e2 e3 e4 e5
      go_simp
      clear e0 e1 e2 e3 e4 e5 f0 f1 f2 f3 f4 f5
      refine hK0.out _ _ ?hS49b (fun hHeld1 => ?_)
      case hS49b => exact unhide SK _ (set6 hHeld.1 (by omega) _ _ _ _ _ _)
      clear hK0 K0
      have s49qb := Own.put o48qb 0 false 0 0 ⟨#[]⟩ none 0 0
      have s49pb := six_other s48pb (show g47b ≠ g44b by first | assumption | exact Ne.symm (by assumption) | (intro e; omega)) (.int .i64 0) (.bool false) (.int .i64 0) (.int .i64 0) (.string ⟨#[]⟩) (.slice none 0 0)
      generalize ((((((u48b.setCell ⟨g44b, 0, none⟩ (.int .i64 0)).setCell ⟨g44b, 1, none⟩ (.bool false)).setCell ⟨g44b, 2, none⟩ (.int .i64 0)).setCell ⟨g44b, 3, none⟩ (.int .i64 0)).setCell ⟨g44b, 4, none⟩ (.string ⟨#[]⟩)).setCell ⟨g44b, 5, none⟩ (.slice none 0 0)) = u49b at *
      clear hHeld o48qb s48pb
      have hHeld := hHeld1
      clear hHeld1
      try simp only [Act.put, List.setIfInBounds_toArray, List.set_cons_zero, List.set_cons_succ]
      refine wpAnyH_done (by kernel_rfl) ?_ _
      refine NoPanic.normal ?_
      go_wp2_with fail
      go_meet
      exact ⟨_, _, rfl, rfl, s49pb, s49qb, hHeld.1⟩
     ·skip
      go_simp
      refine hK0.out _ _ ?hS50b (fun hHeld1 => ?_)
      case hS50b => exact unhide SK _ (keep_alloc hHeld _)
      clear hK0 K0
      have j50b := below1 u45b (Obj.cells #[.int .i64 0, .bool false, .int .i64 0, .int .i64 0, .string ⟨#[]⟩, .slice none 0 0] 32)
      have z50b : w2.heap.size ≤ u45b.heap.size := hHeld.1.size
      have o50qb := o45qb.below j50b
      have XI50b := hide ((unhide XI45b).below j50b)
      have YI50b := hide ((unhide YI45b).below j50b)
      have o50pb := Own.new u45b 32
      have ne50qb : g44b ≠ u45b.heap.size := Nat.ne_of_lt o45qb.1.1
      generalize u45b.alloc (Obj.cells #[.int .i64 0, .bool false, .int .i64 0, .int .i64 0, .string ⟨#[]⟩, .slice none 0 0] 32) = u50b at *
      generalize u45b.heap.size = g50b at *
      clear j50b
      clear hHeld o45qb XI45b YI45b
      have hHeld := hHeld1
      clear hHeld1
      try simp only [Act.put, List.setIfInBounds_toArray, List.set_cons_zero, List.set_cons_succ]
      refine wpAnyH_ready (rs := [5]) (by kernel_rfl) (by simp) ?_
      refine AllReadyH.cons rfl (fun K0 hK0 => ?_) AllReadyH.nil
      go_simp
      refine (unhide R2 _ (unhide XI50b) (unhide YI50b)).mono ?_
      rintro e u51b ⟨rfl, j51b⟩
      unfold leaf
      dsimp only [VT.val]
      go_wp2_with fail
      refine hK0.out _ _ ?hS51b (fun hHeld1 => ?_)
      case hS51b => exact unhide SK _ (keep_call hHeld j51b)
      clear hK0 K0
      have o51qb := o50qb.below j51b
      have o51pb := o50pb.below j51b
      have XI51b := hide ((unhide XI50b).below j51b)
      have YI51b := hide ((unhide YI50b).below j51b)
      clear j51b
      clear hHeld o50qb o50pb XI50b YI50b
      have hHeld := hHeld1
      clear hHeld1
      try simp only [Act.put, List.setIfInBounds_toArray, List.set_cons_zero, List.set_cons_succ]
      refine wpAnyH_ready (rs := [8]) (by kernel_rfl) (by simp) ?_
      refine AllReadyH.cons rfl (fun K0 hK0 => ?_) AllReadyH.nil
      obtain ⟨⟨-, e0, e1, e2, e3, e4, e5⟩, f0, f1, f2, f3, f4, f5⟩ := id o51pb
      simp only [Nat.zero_add] at e0 e1 e2 e3 e4 e5
      go_simp
      clear e0 e1 e2 e3 e4 e5 f0 f1 f2 f3 f4 f5
      refine hK0.out _ _ ?hS52b (fun hHeld1 => ?_)
      case hS52b => exact unhide SK _ (set6 hHeld.1 (by omega) _ _ _ _ _ _)
      clear hK0 K0
      have s52pb := Own.put o51pb 0 false 0 0 ⟨#[]⟩ none 0 0
      have o52qb := Own.other o51qb (show g44b ≠ g50b by first | assumption | exact Ne.symm (by assumption) | (intro e; omega)) (.int .i64 0) (.bool false) (.int .i64 0) (.int .i64 0) (.string ⟨#[]⟩) (.slice none 0 0)
      generalize ((((((u51b.setCell ⟨g50b, 0, none⟩ (.int .i64 0)).setCell ⟨g50b, 1, none⟩ (.bool false)).setCell ⟨g50b, 2, none⟩ (.int .i64 0)).setCell ⟨g50b, 3, none⟩ (.int .i64 0)).setCell ⟨g50b, 4, none⟩ (.string ⟨#[]⟩)).setCell ⟨g50b, 5, none⟩ (.slice none 0 0)) = u52b at *
      clear hHeld o51qb o51pb XI51b YI51b
      have hHeld := hHeld1
      clear hHeld1
      try simp only [Act.put, List.setIfInBounds_toArray, List.set_cons_zero, List.set_cons_succ]
      refine wpAnyH_ready (rs := [9]) (by kernel_rfl) (by simp) ?_
      refine AllReadyH.cons rfl (fun K0 hK0 => ?_) AllReadyH.nil
      obtain ⟨⟨-, e0, e1, e2, e3, e4, e5⟩, f0, f1, f2, f3, f4, f5⟩ := id o52qb
      simp only [Nat.zero_add] at e0 e1 e2 e3 e4 e5
      go_simp
      clear e0 e1 e2 e3 e4 e5 f0 f1 f2 f3 f4 f5
      refine hK0.out _ _ ?hS53b (fun hHeld1 => ?_)
      case hS53b => exact unhide SK _ (set6 hHeld.1 (by omega) _ _ _ _ _ _)
      clear hK0 K0
      have s53qb := Own.put o52qb 0 false 0 0 ⟨#[]⟩ none 0 0
      have s53pb := six_other s52pb (show g50b ≠ g44b by first | assumption | exact Ne.symm (by assumption) | (intro e; omega)) (.int .i64 0) (.bool false) (.int .i64 0) (.int .i64 0) (.string ⟨#[]⟩) (.slice none 0 0)
      generalize ((((((u52b.setCell ⟨g44b, 0, none⟩ (.int .i64 0)).setCell ⟨g44b, 1, none⟩ (.bool false)).setCell ⟨g44b, 2, none⟩ (.int .i64 0)).setCell ⟨g44b, 3, none⟩ (.int .i64 0)).setCell ⟨g44b, 4, none⟩ (.string ⟨#[]⟩)).setCell ⟨g44b, 5, none⟩ (.slice none 0 0)) = u53b at *
      clear hHeld o52qb s52pb
      have hHeld := hHeld1
      clear hHeld1
      try simp only [Act.put, List.setIfInBounds_toArray, List.set_cons_zero, List.set_cons_succ]
      refine wpAnyH_done (by kernel_rfl) ?_ _
      refine NoPanic.normal ?_
      go_wp2_with fail
      go_meet
      exact ⟨_, _, rfl, rfl, s53pb, s53qb, hHeld.1⟩
    ·skip
     go_simp
     refine hK0.out _ _ ?hS54b (fun hHeld1 => ?_)
     case hS54b => exact unhide SK _ (keep_alloc hHeld _)
     clear hK0 K0
     have j54b := below1 u44b (Obj.cells #[.int .i64 0, .bool false, .int .i64 0, .int .i64 0, .string ⟨#[]⟩, .slice none 0 0] 32)
     have z54b : w2.heap.size ≤ u44b.heap.size := hHeld.1.size
     have o54qb := o44qb.below j54b
     have XI54b := hide ((unhide XI44b).below j54b)
     have YI54b := hide ((unhide YI44b).below j54b)
     have o54pb := Own.new u44b 32
     have ne54qb : g44b ≠ u44b.heap.size := Nat.ne_of_lt o44qb.1.1
     generalize u44b.alloc (Obj.cells #[.int .i64 0, .bool false, .int .i64 0, .int .i64 0, .string ⟨#[]⟩, .slice none 0 0] 32) = u54b at *
     generalize u44b.heap.size = g54b at *
     clear j54b
     clear hHeld o44qb XI44b YI44b
     have hHeld := hHeld1
     clear hHeld1
     try simp only [Act.put, List.setIfInBounds_toArray, List.set_cons_zero, List.set_cons_succ]
     refine wpAnyH_ready (rs := [2]) (by kernel_rfl) (by simp) ?_
     refine AllReadyH.cons rfl (fun K0 hK0 => ?_) AllReadyH.nil
     go_simp
     refine (unhide R1 _ (unhide XI54b) (unhide YI54b)).mono ?_
     rintro e u55b ⟨rfl, j55b⟩
     unfold leaf
     dsimp only [VT.val]
     go_wp2_with fail
     refine hK0.out _ _ ?hS55b (fun hHeld1 => ?_)
     case hS55b => exact unhide SK _ (keep_call hHeld j55b)
     clear hK0 K0
     have o55qb := o54qb.below j55b
     have o55pb := o54pb.below j55b
     have XI55b := hide ((unhide XI54b).below j55b)
     have YI55b := hide ((unhide YI54b).below j55b)
     clear j55b
     clear hHeld o54qb o54pb XI54b YI54b
     have hHeld := hHeld1
     clear hHeld1
     try simp only [Act.put, List.setIfInBounds_toArray, List.set_cons_zero, List.set_cons_succ]
     refine wpAnyH_ready (rs := [5]) (by kernel_rfl) (by simp) ?_
     refine AllReadyH.cons rfl (fun K0 hK0 => ?_) AllReadyH.nil
     go_simp
     refine (unhide R2 _ (unhide XI55b) (unhide YI55b)).mono ?_
     rintro e u56b ⟨rfl, j56b⟩
     unfold leaf
     dsimp only [VT.val]
     go_wp2_with fail
     refine hK0.out _ _ ?hS56b (fun hHeld1 => ?_)
     case hS56b => exact unhide SK _ (keep_call hHeld j56b)
     clear hK0 K0
     have o56qb := o55qb.below j56b
     have o56pb := o55pb.below j56b
     have XI56b := hide ((unhide XI55b).below j56b)
     have YI56b := hide ((unhide YI55b).below j56b)
     clear j56b
     clear hHeld o55qb o55pb XI55b YI55b
     have hHeld := hHeld1
     clear hHeld1
     try simp only [Act.put, List.setIfInBounds_toArray, List.set_cons_zero, List.set_cons_succ]
     refine wpAnyH_ready (rs := [8]) (by kernel_rfl) (by simp) ?_
     refine AllReadyH.cons rfl (fun K0 hK0 => ?_) AllReadyH.nil
     obtain ⟨⟨-, e0, e1, e2, e3, e4, e5⟩, f0, f1, f2, f3, f4, f5⟩ := id o56pb
     simp only [Nat.zero_add] at e0 e1 e2 e3 e4 e5
     go_simp
     clear e0 e1 e2 e3 e4 e5 f0 f1 f2 f3 f4 f5
     refine hK0.out _ _ ?hS57b (fun hHeld1 => ?_)
     case hS57b => exact unhide SK _ (set6 hHeld.1 (by omega) _ _ _ _ _ _)
     clear hK0 K0
     have s57pb := Own.put o56pb 0 false 0 0 ⟨#[]⟩ none 0 0
     have o57qb := Own.other o56qb (show g44b ≠ g54b by first | assumption | exact Ne.symm (by assumption) | (intro e; omega)) (.int .i64 0) (.bool false) (.int .i64 0) (.int .i64 0) (.string ⟨#[]⟩) (.slice none 0 0)
     generalize ((((((u56b.setCell ⟨g54b, 0, none⟩ (.int .i64 0)).setCell ⟨g54b, 1, none⟩ (.bool false)).setCell ⟨g54b, 2, none⟩ (.int .i64 0)).setCell ⟨g54b, 3, none⟩ (.int .i64 0)).setCell ⟨g54b, 4, none⟩ (.string ⟨#[]⟩)).setCell ⟨g54b, 5, none⟩ (.slice none 0 0)) = u57b at *
     clear hHeld o56qb o56pb XI56b YI56b
     have hHeld := hHeld1
     clear hHeld1
     try simp only [Act.put, List.setIfInBounds_toArray, List.set_cons_zero, List.set_cons_succ]
     refine wpAnyH_ready (rs := [9]) (by kernel_rfl) (by simp) ?_
     refine AllReadyH.cons rfl (fun K0 hK0 => ?_) AllReadyH.nil
     obtain ⟨⟨-, e0, e1, e2, e3, e4, e5⟩, f0, f1, f2, f3, f4, f5⟩ := id o57qb
     simp only [Nat.zero_add] at e0 e1 e2 e3 e4 e5
     go_simp
     clear e0 e1 e2 e3 e4 e5 f0 f1 f2 f3 f4 f5
     refine hK0.out _ _ ?hS58b (fun hHeld1 => ?_)
     case hS58b => exact unhide SK _ (set6 hHeld.1 (by omega) _ _ _ _ _ _)
     clear hK0 K0
     have s58qb := Own.put o57qb 0 false 0 0 ⟨#[]⟩ none 0 0
     have s58pb := six_other s57pb (show g54b ≠ g44b by first | assumption | exact Ne.symm (by assumption) | (intro e; omega)) (.int .i64 0) (.bool false) (.int .i64 0) (.int .i64 0) (.string ⟨#[]⟩) (.slice none 0 0)
     generalize ((((((u57b.setCell ⟨g44b, 0, none⟩ (.int .i64 0)).setCell ⟨g44b, 1, none⟩ (.bool false)).setCell ⟨g44b, 2, none⟩ (.int .i64 0)).setCell ⟨g44b, 3, none⟩ (.int .i64 0)).setCell ⟨g44b, 4, none⟩ (.string ⟨#[]⟩)).setCell ⟨g44b, 5, none⟩ (.slice none 0 0)) = u58b at *
     clear hHeld o57qb s57pb
     have hHeld := hHeld1
     clear hHeld1
     try simp only [Act.put, List.setIfInBounds_toArray, List.set_cons_zero, List.set_cons_succ]
     refine wpAnyH_done (by kernel_rfl) ?_ _
     refine NoPanic.normal ?_
     go_wp2_with fail
     go_meet
     exact ⟨_, _, rfl, rfl, s58pb, s58qb, hHeld.1⟩
  case rest =>
   obtain ⟨g, h, rfl, rfl, Z0, Z1, BC⟩ := hcut
   have XI2 := hide ((unhide XI).below BC)
   have YI2 := hide ((unhide YI).below BC)
   clear XI YI R1 R2
   have XI := XI2
   have YI := YI2
   clear XI2 YI2
   obtain ⟨-, u1, u2, u3, u4, u5, u6, v1, v2, v3, v4, v5, v6⟩ := unhide SK _ BC
   have SK2 : Hid (∀ w', Below wc.heap.size wc w' → (Below wc.heap.size wc w' ∧ w'.cell? ⟨B, 0, none⟩ = some (.int .i64 k) ∧ w'.cell? ⟨B, 1, none⟩ = some (.bool b) ∧ w'.cell? ⟨B, 2, none⟩ = some (.int .i64 m) ∧ w'.cell? ⟨B, 3, none⟩ = some (.int .i64 s) ∧ w'.cell? ⟨B, 4, none⟩ = some (.string t) ∧ w'.cell? ⟨B, 5, none⟩ = some (.slice a len cap) ∧ w'.cell? ⟨(B + 1), 0, none⟩ = some (.int .i64 k') ∧ w'.cell? ⟨(B + 1), 1, none⟩ = some (.bool b') ∧ w'.cell? ⟨(B + 1), 2, none⟩ = some (.int .i64 m') ∧ w'.cell? ⟨(B + 1), 3, none⟩ = some (.int .i64 s') ∧ w'.cell? ⟨(B + 1), 4, none⟩ = some (.string t') ∧ w'.cell? ⟨(B + 1), 5, none⟩ = some (.slice a' len' cap'))) := hide (fun w' kk => ⟨kk, kcell kk (World.block_lt_of_cell? _ _ u1) u1, kcell kk (World.block_lt_of_cell? _ _ u2) u2, kcell kk (World.block_lt_of_cell? _ _ u3) u3, kcell kk (World.block_lt_of_cell? _ _ u4) u4, kcell kk (World.block_lt_of_cell? _ _ u5) u5, kcell kk (World.block_lt_of_cell? _ _ u6) u6, kcell kk (World.block_lt_of_cell? _ _ v1) v1, kcell kk (World.block_lt_of_cell? _ _ v2) v2, kcell kk (World.block_lt_of_cell? _ _ v3) v3, kcell kk (World.block_lt_of_cell? _ _ v4) v4, kcell kk (World.block_lt_of_cell? _ _ v5) v5, kcell kk (World.block_lt_of_cell? _ _ v6) v6⟩)
   clear SK u1 u2 u3 u4 u5 u6 v1 v2 v3 v4 v5 v6
   have SK := SK2
   clear SK2
   have B4 := bstep (show Below w.heap.size w w2 by rw [unhide HB]; exact b2) BC
   clear BC b2
   obtain ⟨y0, y1, y2, y3, y4, y5, y6⟩ := Z0
   obtain ⟨z0, z1, z2, z3, z4, z5, z6⟩ := Z1
   simp only [Nat.zero_add] at y1 y2 y3 y4 y5 y6 z1 z2 z3 z4 z5 z6
   go_upto_region 6 with fail
   clear y0 y1 y2 y3 y4 y5 y6 z0 z1 z2 z3 z4 z5 z6
   have hfd : ∀ (c : Bool) (w : World), (Instr.field 32 (.agg #[.int .i64 1, .bool c, .int .i64 0, .int .i64 0, .string ⟨#[]⟩, .slice none 0 0]) 1).run Tryz.prog w = .ok (.bool c) w := fun _ _ => by kernel_rfl
   refine wp_region_noPanic ?_
   refine wp_region_held_drew (S := fun w' => Below wc.heap.size wc w' ∧ w'.cell? ⟨B, 0, none⟩ = some (.int .i64 k) ∧ w'.cell? ⟨B, 1, none⟩ = some (.bool b) ∧ w'.cell? ⟨B, 2, none⟩ = some (.int .i64 m) ∧ w'.cell? ⟨B, 3, none⟩ = some (.int .i64 s) ∧ w'.cell? ⟨B, 4, none⟩ = some (.string t) ∧ w'.cell? ⟨B, 5, none⟩ = some (.slice a len cap) ∧ w'.cell? ⟨(B + 1), 0, none⟩ = some (.int .i64 k') ∧ w'.cell? ⟨(B + 1), 1, none⟩ = some (.bool b') ∧ w'.cell? ⟨(B + 1), 2, none⟩ = some (.int .i64 m') ∧ w'.cell? ⟨(B + 1), 3, none⟩ = some (.int .i64 s') ∧ w'.cell? ⟨(B + 1), 4, none⟩ = some (.string t') ∧ w'.cell? ⟨(B + 1), 5, none⟩ = some (.slice a' len' cap')) (by kernel_rfl) ?hS0d (fun hHeld => ?_)
   case hS0d => exact unhide SK _ (Below.refl _ _).drew
   have jdd : Below wc.heap.size wc wc.drew := (Below.refl _ _).drew
   have XI0d := hide ((unhide XI).below jdd)
   have YI0d := hide ((unhide YI).below jdd)
   clear jdd
   generalize wc.drew = u0d at *
   refine takeAt 0 (some 57) ?vd0x0 ⟨_, rfl, rfl, rfl, ?hyd0x0⟩ (by kernel_rfl) (by kernel_rfl) (by kernel_rfl) (fun _ _ _ h => h) (by assumption) ?_
   case hyd0x0 => (intro w0 hSw; (try dsimp only at hSw); go_simp; try (with_reducible rfl))
   simp only [Act.put, List.setIfInBounds_toArray, List.set_cons_zero, List.set_cons_succ]
   refine takeAt 1 (some 58) ?vd1x0 ⟨_, rfl, rfl, rfl, ?hyd1x0⟩ (by kernel_rfl) (by kernel_rfl) (by kernel_rfl) (fun _ _ _ h => h) (by assumption) ?_
   case hyd1x0 => (intro w0 hSw; (try dsimp only at hSw); go_simp; try (with_reducible rfl))
   simp only [Act.put, List.setIfInBounds_toArray, List.set_cons_zero, List.set_cons_succ]
   refine takeAt 2 (some 59) ?vd2x0 ⟨_, rfl, rfl, rfl, ?hyd2x0⟩ (by kernel_rfl) (by kernel_rfl) (by kernel_rfl) (fun _ _ _ h => h) (by assumption) ?_
   case hyd2x0 => (intro w0 hSw; (try dsimp only at hSw); go_simp; try (with_reducible rfl))
   simp only [Act.put, List.setIfInBounds_toArray, List.set_cons_zero, List.set_cons_succ]
   refine takeAt 4 (some 61) ?vd4x0 ⟨_, rfl, rfl, rfl, ?hyd4x0⟩ (by kernel_rfl) (by kernel_rfl) (by kernel_rfl) (fun _ _ _ h => h) (by assumption) ?_
   case hyd4x0 => (intro w0 hSw; (try dsimp only at hSw); go_simp; try (with_reducible rfl))
   simp only [Act.put, List.setIfInBounds_toArray, List.set_cons_zero, List.set_cons_succ]
   refine takeAt 5 (some 62) ?vd5x0 ⟨_, rfl, rfl, rfl, ?hyd5x0⟩ (by kernel_rfl) (by kernel_rfl) (by kernel_rfl) (fun _ _ _ h => h) (by assumption) ?_
   case hyd5x0 => (intro w0 hSw; (try dsimp only at hSw); go_simp; try (with_reducible rfl))
   simp only [Act.put, List.setIfInBounds_toArray, List.set_cons_zero, List.set_cons_succ]
   refine takeAt 6 (some 63) ?vd6x0 ⟨_, rfl, rfl, rfl, ?hyd6x0⟩ (by kernel_rfl) (by kernel_rfl) (by kernel_rfl) (fun _ _ _ h => h) (by assumption) ?_
   case hyd6x0 => (intro w0 hSw; (try dsimp only at hSw); go_simp; try (with_reducible rfl))
   simp only [Act.put, List.setIfInBounds_toArray, List.set_cons_zero, List.set_cons_succ]
   refine wpAnyH_ready (rs := [3]) (by kernel_rfl) (by simp) ?_
   refine AllReadyH.cons rfl (fun K0 hK0 => ?_) AllReadyH.nil
   go_simp
   refine (unhide R3 _ (unhide XI0d) (unhide YI0d)).mono ?_
   rintro e u1d ⟨rfl, j1d⟩
   unfold leaf
   dsimp only [VT.val]
   go_wp2_with fail
   refine hK0.out _ _ ?hS1d (fun hHeld1 => ?_)
   case hS1d => exact unhide SK _ (keep_call hHeld j1d)
   clear hK0 K0
   have XI1d := hide ((unhide XI0d).below j1d)
   have YI1d := hide ((unhide YI0d).below j1d)
   clear j1d
   clear hHeld XI0d YI0d
   have hHeld := hHeld1
   clear hHeld1
   try simp only [Act.put, List.setIfInBounds_toArray, List.set_cons_zero, List.set_cons_succ]
   refine wpAnyH_ready (rs := [7]) (by kernel_rfl) (by simp) ?_
   refine AllReadyH.cons rfl (fun K0 hK0 => ?_) AllReadyH.nil
   go_simp
   refine (unhide R4 _ (unhide XI1d) (unhide YI1d)).mono ?_
   rintro e u2d ⟨rfl, j2d⟩
   unfold leaf
   dsimp only [VT.val]
   go_wp2_with fail
   refine hK0.out _ _ ?hS2d (fun hHeld1 => ?_)
   case hS2d => exact unhide SK _ (keep_call hHeld j2d)
   clear hK0 K0
   have XI2d := hide ((unhide XI1d).below j2d)
   have YI2d := hide ((unhide YI1d).below j2d)
   clear j2d
   clear hHeld XI1d YI1d
   have hHeld := hHeld1
   clear hHeld1
   try simp only [Act.put, List.setIfInBounds_toArray, List.set_cons_zero, List.set_cons_succ]
   refine wpAnyH_ready (rs := [8]) (by kernel_rfl) (by simp) ?_
   refine AllReadyH.cons rfl (fun K0 hK0 => ?_) AllReadyH.nil
   go_simp
   refine (slf_same kO bO 0 0 ⟨#[]⟩ none 0 (fun _ => .none) (unhide HO w) _).mono ?_
   rintro e u3d ⟨rfl, j3d⟩
   go_wp2_with fail
   refine hK0.out _ _ ?hS3d (fun hHeld1 => ?_)
   case hS3d => exact unhide SK _ (keep_call hHeld j3d)
   clear hK0 K0
   have XI3d := hide ((unhide XI2d).below j3d)
   have YI3d := hide ((unhide YI2d).below j3d)
   clear j3d
   clear hHeld XI2d YI2d
   have hHeld := hHeld1
   clear hHeld1
   try simp only [Act.put, List.setIfInBounds_toArray, List.set_cons_zero, List.set_cons_succ]
   refine takeAt 9 (some 66) ?vd9x3 ⟨_, rfl, rfl, rfl, ?hyd9x3⟩ (by kernel_rfl) (by kernel_rfl) (by kernel_rfl) (fun _ _ _ h => h) (by assumption) ?_
   case hyd9x3 => (intro w0 hSw; (try dsimp only at hSw); go_simp; try (with_reducible rfl))
   simp only [Act.put, List.setIfInBounds_toArray, List.set_cons_zero, List.set_cons_succ]
   refine takeAt 10 (some 67) ?vd10x3 ⟨_, rfl, rfl, rfl, ?hyd10x3⟩ (by kernel_rfl) (by kernel_rfl) (by kernel_rfl) (fun _ _ _ h => h) (by assumption) ?_
   case hyd10x3 => (intro w0 hSw; (try dsimp only at hSw); go_simp; try (with_reducible rfl))
   simp only [Act.put, List.setIfInBounds_toArray, List.set_cons_zero, List.set_cons_succ]
   refine takeAt 11 (some 68) ?vd11x3 ⟨_, rfl, rfl, rfl, ?hyd11x3⟩ (by kernel_rfl) (by kernel_rfl) (by kernel_rfl) (fun _ _ _ h => h) (by assumption) ?_
   case hyd11x3 => (intro w0 hSw; (try dsimp only at hSw); go_simp; try (with_reducible rfl))
   simp only [Act.put, List.setIfInBounds_toArray, List.set_cons_zero, List.set_cons_succ]
   refine takeAt 14 (some 71) ?vd14x3 ⟨_, rfl, rfl, rfl, ?hyd14x3⟩ (by kernel_rfl) (by kernel_rfl) (by kernel_rfl) (fun _ _ _ h => h) (by assumption) ?_
   case hyd14x3 => (intro w0 hSw; (try dsimp only at hSw); go_simp; try (with_reducible rfl))
   simp only [Act.put, List.setIfInBounds_toArray, List.set_cons_zero, List.set_cons_succ]
   refine takeAt 15 (some 72) ?vd15x3 ⟨_, rfl, rfl, rfl, ?hyd15x3⟩ (by kernel_rfl) (by kernel_rfl) (by kernel_rfl) (fun _ _ _ h => h) (by assumption) ?_
   case hyd15x3 => (intro w0 hSw; (try dsimp only at hSw); go_simp; try (with_reducible rfl))
   simp only [Act.put, List.setIfInBounds_toArray, List.set_cons_zero, List.set_cons_succ]
   refine wpAnyH_ready (rs := [12]) (by kernel_rfl) (by simp) ?_
   refine AllReadyH.cons rfl (fun K0 hK0 => ?_) AllReadyH.nil
   go_simp
   refine (unhide R5 _ (unhide XI3d) (unhide YI3d)).mono ?_
   rintro e u4d ⟨rfl, j4d⟩
   unfold leaf
   dsimp only [VT.val]
   go_wp2_with fail
   refine hK0.out _ _ ?hS4d (fun hHeld1 => ?_)
   case hS4d => exact unhide SK _ (keep_call hHeld j4d)
   clear hK0 K0
   have XI4d := hide ((unhide XI3d).below j4d)
   have YI4d := hide ((unhide YI3d).below j4d)
   clear j4d
   clear hHeld XI3d YI3d
   have hHeld := hHeld1
   clear hHeld1
   try simp only [Act.put, List.setIfInBounds_toArray, List.set_cons_zero, List.set_cons_succ]
   refine takeAt 13 (some 70) ?vd13x4 ⟨_, rfl, rfl, rfl, ?hyd13x4⟩ (by kernel_rfl) (by kernel_rfl) (by kernel_rfl) (fun _ _ _ h => h) (by assumption) ?_
   case hyd13x4 => (intro w0 hSw; (try dsimp only at hSw); go_simp; try (with_reducible rfl))
   simp only [Act.put, List.setIfInBounds_toArray, List.set_cons_zero, List.set_cons_succ]
   refine wpAnyH_ready (rs := [16]) (by kernel_rfl) (by simp) ?_
   refine AllReadyH.cons rfl (fun K0 hK0 => ?_) AllReadyH.nil
   go_simp
   refine (unhide R6 _ (unhide XI4d) (unhide YI4d)).mono ?_
   rintro e u5d ⟨rfl, j5d⟩
   unfold leaf
   dsimp only [VT.val]
   go_wp2_with fail
   refine hK0.out _ _ ?hS5d (fun hHeld1 => ?_)
   case hS5d => exact unhide SK _ (keep_call hHeld j5d)
   clear hK0 K0
   have XI5d := hide ((unhide XI4d).below j5d)
   have YI5d := hide ((unhide YI4d).below j5d)
   clear j5d
   clear hHeld XI4d YI4d
   have hHeld := hHeld1
   clear hHeld1
   try simp only [Act.put, List.setIfInBounds_toArray, List.set_cons_zero, List.set_cons_succ]
   refine takeAt 17 (some 74) ?vd17x5 ⟨_, rfl, rfl, rfl, ?hyd17x5⟩ (by kernel_rfl) (by kernel_rfl) (by kernel_rfl) (fun _ _ _ h => h) (by assumption) ?_
   case hyd17x5 => (intro w0 hSw; (try dsimp only at hSw); go_simp; try (with_reducible rfl))
   simp only [Act.put, List.setIfInBounds_toArray, List.set_cons_zero, List.set_cons_succ]
   refine takeAt 18 (some 75) ?vd18x5 ⟨_, rfl, rfl, rfl, ?hyd18x5⟩ (by kernel_rfl) (by kernel_rfl) (by kernel_rfl) (fun _ _ _ h => h) (by assumption) ?_
   case hyd18x5 => (intro w0 hSw; (try dsimp only at hSw); go_simp; try (with_reducible rfl))
   simp only [Act.put, List.setIfInBounds_toArray, List.set_cons_zero, List.set_cons_succ]
   refine takeAt 19 (some 76) ?vd19x5 ⟨_, rfl, rfl, rfl, ?hyd19x5⟩ (by kernel_rfl) (by kernel_rfl) (by kernel_rfl) (fun _ _ _ h => h) (by assumption) ?_
   case hyd19x5 => (intro w0 hSw; (try dsimp only at hSw); go_simp; try (with_reducible rfl))
   simp only [Act.put, List.setIfInBounds_toArray, List.set_cons_zero, List.set_cons_succ]
   refine takeAt 20 (some 77) ?vd20x5 ⟨_, rfl, rfl, rfl, ?hyd20x5⟩ (by kernel_rfl) (by kernel_rfl) (by kernel_rfl) (fun _ _ _ h => h) (by assumption) ?_
   case hyd20x5 => (intro w0 hSw; (try dsimp only at hSw); go_simp; try (with_reducible rfl))
   simp only [Act.put, List.setIfInBounds_toArray, List.set_cons_zero, List.set_cons_succ]
   refine takeAt 21 (some 78) ?vd21x5 ⟨_, rfl, rfl, rfl, ?hyd21x5⟩ (by kernel_rfl) (by kernel_rfl) (by kernel_rfl) (fun _ _ _ h => h) (by assumption) ?_
   case hyd21x5 => (intro w0 hSw; (try dsimp only at hSw); go_simp; try (with_reducible rfl))
   simp only [Act.put, List.setIfInBounds_toArray, List.set_cons_zero, List.set_cons_succ]
   refine wpAnyH_ready (rs := [22]) (by kernel_rfl) (by simp) ?_
   refine AllReadyH.cons rfl (fun K0 hK0 => ?_) AllReadyH.nil
   go_simp
   refine (eknown_any _).mono ?_
   rintro e u6d ⟨rfl, j6d⟩
   go_wp2_with fail
   refine hK0.out _ _ ?hS6d (fun hHeld1 => ?_)
   case hS6d => exact unhide SK _ (keep_call hHeld j6d)
   clear hK0 K0
   have XI6d := hide ((unhide XI5d).below j6d)
   have YI6d := hide ((unhide YI5d).below j6d)
   clear j6d
   clear hHeld XI5d YI5d
   have hHeld := hHeld1
   clear hHeld1
   try simp only [Act.put, List.setIfInBounds_toArray, List.set_cons_zero, List.set_cons_succ]
   refine takeAt 23 (some 80) ?vd23x6 ⟨_, rfl, rfl, rfl, ?hyd23x6⟩ (by kernel_rfl) (by kernel_rfl) (by kernel_rfl) (fun _ _ _ h => h) (by assumption) ?_
   case hyd23x6 => (intro w0 hSw; (try dsimp only at hSw); go_simp; try (with_reducible rfl))
   simp only [Act.put, List.setIfInBounds_toArray, List.set_cons_zero, List.set_cons_succ]
   refine takeAt 24 (some 6) ?vd24x6 ⟨_, rfl, rfl, rfl, ?hyd24x6⟩ (by kernel_rfl) (by kernel_rfl) (by kernel_rfl) (fun _ _ _ h => h) (by assumption) ?_
   case hyd24x6 => (intro w0 hSw; (try dsimp only at hSw); go_simp; try (with_reducible rfl))
   simp only [Act.put, List.setIfInBounds_toArray, List.set_cons_zero, List.set_cons_succ]
   refine wpAnyH_done (by kernel_rfl) ?_ _
   refine NoPanic.normal ?_
   have BQ := hHeld.1
   clear hHeld
   go_wp2_with fail
   go_ret
   exact ⟨rfl, by first | exact bstep B4 BQ | (rw [← unhide HB]; exact bstep B4 BQ)⟩

set_option maxHeartbeats 8000000 in
theorem evalRels_out (l : List UInt8) (k : Int) (b : Bool) (m s : Int) (t : ByteArray) (a : Option Addr) (len cap : Nat) (kid : Nat → VT) (k' : Int) (b' : Bool) (m' s' : Int) (t' : ByteArray) (a' : Option Addr) (len' cap' : Nat) (kid' : Nat → VT) (w : World) (hin : (VT.mk k b m s t a len cap kid).In w) (hin' : (VT.mk k' b' m' s' t' a' len' cap' kid').In w) (hl : l.length ≤ maxLen) (h : 20 < l.length ∨ 20 < len ∨ 20 < len' ∨ (VT.mk k b m s t a len cap kid).okB 2 = false ∨ (VT.mk k' b' m' s' t' a' len' cap' kid').okB 2 = false) :
  Calls Tryz.prog 6 #[.string ⟨l.toArray⟩, .agg #[.int .i64 k, .bool b, .int .i64 m, .int .i64 s, .string t, .slice a len cap], .agg #[.int .i64 k', .bool b', .int .i64 m', .int .i64 s', .string t', .slice a' len' cap']] w fun e w' => e = .returned (.bool true) ∧ Below w.heap.size w w' := by
 have F0 := (six_new w k b m s t a len cap).below (below1 _ (Obj.cells #[.int .i64 k', .bool b', .int .i64 m', .int .i64 s', .string t', .slice a' len' cap'] 32))
 have F1 := six_new (w.alloc (Obj.cells #[.int .i64 k, .bool b, .int .i64 m, .int .i64 s, .string t, .slice a len cap] 32)) k' b' m' s' t' a' len' cap'
 have b0 := below2 w (Obj.cells #[.int .i64 k, .bool b, .int .i64 m, .int .i64 s, .string t, .slice a len cap] 32) (Obj.cells #[.int .i64 k', .bool b', .int .i64 m', .int .i64 s', .string t', .slice a' len' cap'] 32)
 rw [show (w.alloc (Obj.cells #[.int .i64 k, .bool b, .int .i64 m, .int .i64 s, .string t, .slice a len cap] 32)).heap.size = w.heap.size + 1 by simp] at F1
 have XI := hide (hin.below b0)
 have YI := hide (hin'.below b0)
 have IA := hide (fun w h => rIs_any (VT.mk k b m s t a len cap kid) w h)
 have IB := hide (fun w h => rIs_any (VT.mk k' b' m' s' t' a' len' cap' kid') w h)
 obtain ⟨u0, u1, u2, u3, u4, u5, u6⟩ := id F0
 obtain ⟨v0, v1, v2, v3, v4, v5, v6⟩ := id F1
 simp only [Nat.zero_add] at u1 u2 u3 u4 u5 u6 v1 v2 v3 v4 v5 v6
 unfold maxLen at hl
 clear hin hin'
 by_cases g1 : 20 < (l.length : Int)
 ·clear h IA IB
  go_enter Tryz.func6, Tryz.ntmps6
  go_wp2_with fail
  go_ret
  exact ⟨rfl, b0⟩
 have h := h.resolve_left (by omega)
 by_cases g2 : 20 < (len : Int)
 ·clear h IA IB
  go_enter Tryz.func6, Tryz.ntmps6
  go_wp2_with fail
  go_ret
  exact ⟨rfl, b0⟩
 have h := h.resolve_left (by omega)
 by_cases g3 : 20 < (len' : Int)
 ·clear h IA IB
  go_enter Tryz.func6, Tryz.ntmps6
  go_wp2_with fail
  go_ret
  exact ⟨rfl, b0⟩
 have h := h.resolve_left (by omega)
 cases hok : (VT.mk k b m s t a len cap kid).okB 2
 ·rw [hok] at IA
  clear h hok
  go_enter Tryz.func6, Tryz.ntmps6
  go_wp2_with fail
  refine (unhide IA _ (unhide XI)).mono ?_
  rintro e w1 ⟨rfl, k1⟩
  go_wp2_with fail
  go_ret
  exact ⟨rfl, bstep b0 k1⟩
 have h := h.resolve_left (by rw [hok]; simp)
 rw [hok] at IA
 rw [h] at IB
 clear h hok
 go_enter Tryz.func6, Tryz.ntmps6
 go_wp2_with fail
 refine (unhide IA _ (unhide XI)).mono ?_
 rintro e w1 ⟨rfl, k1⟩
 have b1 := bstep b0 k1
 have G0 := F0.below k1
 have G1 := F1.below k1
 have YI1 := hide ((unhide YI).below k1)
 clear k1 b0 F0 F1 IA u0 u1 u2 u3 u4 u5 u6 v0 v1 v2 v3 v4 v5 v6
 obtain ⟨u0, u1, u2, u3, u4, u5, u6⟩ := id G0
 obtain ⟨v0, v1, v2, v3, v4, v5, v6⟩ := id G1
 simp only [Nat.zero_add] at u1 u2 u3 u4 u5 u6 v1 v2 v3 v4 v5 v6
 go_wp2_with fail
 refine (unhide IB _ (unhide YI1)).mono ?_
 rintro e w2 ⟨rfl, k2⟩
 go_wp2_with fail
 go_ret
 exact ⟨rfl, bstep b1 k2⟩
theorem evalRels_walk (op : ByteArray) (x y : VT) (hop : op.size ≤ maxLen) (w : World) (hin : x.In w) (hin' : y.In w) :
  Calls Tryz.prog 6 #[.string op, x.val, y.val] w fun e w' => e = .returned (.bool true) ∧ Below w.heap.size w w' := by
 obtain ⟨k, b, m, s, t, a, len, cap, kid, rfl⟩ := hin.form
 obtain ⟨k', b', m', s', t', a', len', cap', kid', rfl⟩ := hin'.form
 obtain ⟨l, rfl⟩ : ∃ l : List UInt8, op = ⟨l.toArray⟩ := ⟨op.data.toList, by simp⟩
 have hl : l.length ≤ maxLen := by simpa [ByteArray.size] using hop
 by_cases h : 20 < l.length ∨ 20 < len ∨ 20 < len' ∨ (VT.mk k b m s t a len cap kid).okB 2 = false ∨ (VT.mk k' b' m' s' t' a' len' cap' kid').okB 2 = false
 ·exact evalRels_out l k b m s t a len cap kid k' b' m' s' t' a' len' cap' kid' w hin hin' hl h
 ·simp only [not_or] at h
  obtain ⟨h1, h2, h3, h4, h5⟩ := h
  exact evalRels_in l k b m s t a len cap kid k' b' m' s' t' a' len' cap' kid' w hin hin' (by omega) h2 h3 (by simpa using h4) (by simpa using h5)
end Go.Proofs.YtfdimdjmnfdecaaGreat

/- The walk of EvalCats: texts are laid one behind the other, as long as they fit. -/
import Derived.Test.YtheoalmnbkjpjabGreatHBC
import Derived.Test.YtheoalmnbkjpjabGreatHAC
import Derived.Test.YtheoalmnbkjpjabGreatHAF
import Derived.Test.YtheoalmnbkjpjabGreatHAB
import Derived.Deep.DeepCutAuto
namespace Go.Proofs.YtheoalmnbkjpjabGreat
open Go.RowKit
open VT (leaf mkV)
set_option linter.unusedVariables false
set_option linter.unusedSimpArgs false
attribute [local go_sem ↓] Go.wp_at_zero Go.wp_at_succ

def caL0 : List UInt8 := [97, 32, 43, 32, 98]
def caL1 : List UInt8 := [99, 97, 116, 40, 97, 44, 32, 98, 41]
def caL2 : List UInt8 := [108, 101, 110, 40, 97, 41]
theorem ca_calc0 : (parseT caL0).2.2 = 0 ∧ smaX (parseT caL0).1 = true := by decide +kernel
theorem ca_calc1 : (parseT caL1).2.2 = 0 ∧ smaX (parseT caL1).1 = true := by decide +kernel
theorem ca_calc2 : (parseT caL2).2.2 = 0 ∧ smaX (parseT caL2).1 = true := by decide +kernel
theorem ca_x0 : (parseT caL0).1 = binX [43] (nameX [97]) (nameX [98]) := by kernel_rfl
theorem ca_x1 : (parseT caL1).1 = callX [99, 97, 116] [nameX [97], nameX [98]] := by kernel_rfl
theorem ca_x2 : (parseT caL2).1 = callX [108, 101, 110] [nameX [97]] := by kernel_rfl
theorem ca_look (x y : VT) : lookT [([97], x), ([98], y)] [97] = x ∧ lookT [([97], x), ([98], y)] [98] = y := ⟨rfl, rfl⟩
theorem ca_ev0 (a b : ByteArray) : evT [([97], texV a), ([98], texV b)] (parseT caL0).1 = catT [texV a, texV b] := by
  rw [ca_x0, ev_bin _ _ _ _ _ _ (ev_name _ _) (ev_name _ _), (ca_look _ _).1, (ca_look _ _).2]
  unfold binT recoT
  rw [if_neg (by decide), if_neg (by decide), if_pos (by decide), if_pos ⟨rfl, rfl, rfl⟩]
theorem ca_ev1 (a b : ByteArray) : evT [([97], texV a), ([98], texV b)] (parseT caL1).1 = catT [texV a, texV b] := by
  rw [ca_x1, ev_call _ _ _ [texV a, texV b] rfl (fun i hi => by
    match i, hi with
    | 0, _ => exact (ev_name _ _).trans (by rw [(ca_look _ _).1]; rfl)
    | 1, _ => exact (ev_name _ _).trans (by rw [(ca_look _ _).2]; rfl))]
  unfold callT
  rw [if_pos rfl]
theorem ca_ev2 (a b : ByteArray) : evT [([97], texV a), ([98], texV b)] (parseT caL2).1 = (numV a.size 0, 0) := by
  rw [ca_x2, ev_call _ _ _ [texV a] rfl (fun i hi => by
    match i, hi with
    | 0, _ => exact (ev_name _ _).trans (by rw [(ca_look _ _).1]; rfl))]
  unfold callT
  rw [if_neg (by decide), if_neg (by decide)]
  rfl
theorem ca_cat (a b : ByteArray) : catT [texV a, texV b] = if 16 < a.size + b.size then (nilV, 3) else (texV (a ++ b), 0) := by
  have e : catV [texV a, texV b] = (a ++ b).data.toList := by
    unfold catV
    simp [texV, leaf, tOf, XT.tl]
  unfold catT
  rw [if_neg (by
    rintro (h | h)
    · cases h
    · have h' : true = false := h
      cases h'), e]
  have e2 : (a ++ b).data.toList.length = a.size + b.size := by rw [← ByteArray.size_append]; exact Array.length_toList
  rw [e2]
theorem ca_bare (a b : ByteArray) : envT [(⟨#[97]⟩, texV a), (⟨#[98]⟩, texV b)] = [([97], texV a), ([98], texV b)] := env_bare _ _ (by unfold texV leaf; rw [VT.bare_leaf]; rfl) (by unfold texV leaf; rw [VT.bare_leaf]; rfl)
theorem caT_in {t : ByteArray} (h : t.size ≤ maxLen) (w : World) : (texV t).In w := VT.in_leaf rfl rfl rfl h



theorem slf_two {w0 w1 : World} (k : Int) (b : Bool) (m s : Int) (t : ByteArray) (a : Option Addr) (cap : Nat) (kid : Nat → VT) (a' : Option Addr) (cap' : Nat) (kid' : Nat → VT) (h : (VT.mk k b m s t a 0 cap kid).In w0) (h' : (VT.mk k b m s t a' 0 cap' kid').In w1) (w : World) :
    Calls Tryz.prog 7 #[.agg #[.int .i64 k, .bool b, .int .i64 m, .int .i64 s, .string t, .slice a 0 cap], .agg #[.int .i64 k, .bool b, .int .i64 m, .int .i64 s, .string t, .slice a' 0 cap']] w fun e w' => e = .returned (.bool true) ∧ Below w.heap.size w w' := by
  have e : (VT.mk k b m s t a 0 cap kid).same (VT.mk k b m s t a' 0 cap' kid') = true := VT.same_of_bare _ _ (in_leaf2 (w' := w) h) (in_leaf2 (w' := w) h') (by rw [VT.bare_leaf, VT.bare_leaf])
  have := same_any (VT.mk k b m s t a 0 cap kid) (VT.mk k b m s t a' 0 cap' kid') w (in_leaf2 h) (in_leaf2 h')
  rw [e] at this
  exact this
set_option maxHeartbeats 16000000 in
set_option maxRecDepth 10000 in
theorem evalCats_in (a b : ByteArray) (w : World) (hab : a.size + b.size ≤ 100) (ha : (texV a).okB 2 = true) (hb : (texV b).okB 2 = true) :
    Calls Tryz.prog 4 #[.string a, .string b] w fun e w' => e = .returned (.bool true) ∧ Below w.heap.size w w' := by
  have hma : a.size ≤ maxLen := by unfold maxLen; omega
  have hmb : b.size ≤ maxLen := by unfold maxLen; omega
  have IA := hide (fun w => rIs_any (texV a) w (caT_in hma w))
  have IB := hide (fun w => rIs_any (texV b) w (caT_in hmb w))
  rw [ha] at IA
  rw [hb] at IB
  have OK : Hid (∀ e ∈ [((⟨#[97]⟩ : ByteArray), texV a), (⟨#[98]⟩, texV b)], e.2.okB 2 = true) := hide (fun e he => by
      rcases List.mem_cons.1 he with h | h
      · rw [h]; exact ha
      rcases List.mem_cons.1 h with h | h
      · rw [h]; exact hb
      · cases h)
  have TD0 := hide (fun a9 w h => told_any caL0 (by decide) (parseT caL0).1 (parseT caL0).2.1 (by rw [← ca_calc0.1]) ca_calc0.2 [(⟨#[97]⟩, texV a), (⟨#[98]⟩, texV b)] a9 2 w h (by unfold maxLen; simp) (unhide OK))
  have TD1 := hide (fun a9 w h => told_any caL1 (by decide) (parseT caL1).1 (parseT caL1).2.1 (by rw [← ca_calc1.1]) ca_calc1.2 [(⟨#[97]⟩, texV a), (⟨#[98]⟩, texV b)] a9 2 w h (by unfold maxLen; simp) (unhide OK))
  have TD2 := hide (fun a9 w h => told_any caL2 (by decide) (parseT caL2).1 (parseT caL2).2.1 (by rw [← ca_calc2.1]) ca_calc2.2 [(⟨#[97]⟩, texV a), (⟨#[98]⟩, texV b)] a9 2 w h (by unfold maxLen; simp) (unhide OK))
  rw [ca_bare, ca_ev0, ca_cat] at TD0
  rw [ca_bare, ca_ev1, ca_cat] at TD1
  rw [ca_bare, ca_ev2] at TD2
  unfold caL0 at TD0
  unfold caL1 at TD1
  unfold caL2 at TD2
  have g1 : (a.size : Int) + (b.size : Int) ≤ 100 := by omega
  have g2 : ¬ 100 < (a.size : Int) + (b.size : Int) := by omega
  have HMA := hide hma
  have HMB := hide hmb
  clear hma hmb ha hb OK hab
  have F0 := (six_new w 3 false 0 0 a none 0 0).below (below1 _ (Obj.cells #[.int .i64 3, .bool false, .int .i64 0, .int .i64 0, .string b, .slice none 0 0] 26))
  have F1 := six_new (w.alloc (Obj.cells #[.int .i64 3, .bool false, .int .i64 0, .int .i64 0, .string a, .slice none 0 0] 26)) 3 false 0 0 b none 0 0
  have b0 := below2 w (Obj.cells #[.int .i64 3, .bool false, .int .i64 0, .int .i64 0, .string a, .slice none 0 0] 26) (Obj.cells #[.int .i64 3, .bool false, .int .i64 0, .int .i64 0, .string b, .slice none 0 0] 26)
  rw [show (w.alloc (Obj.cells #[.int .i64 3, .bool false, .int .i64 0, .int .i64 0, .string a, .slice none 0 0] 26)).heap.size = w.heap.size + 1 by simp] at F1
  have j1 : (a ++ b).size ≤ 100 := by rw [ByteArray.size_append]; omega
  by_cases hs : 16 < a.size + b.size
  · rw [if_pos hs] at TD0 TD1
    have hs1 : 16 < (a.size : Int) + (b.size : Int) := by omega
    clear hs
    go_enter Tryz.func4, Tryz.ntmps4
    go_wp2_with fail
    refine (unhide IA _).mono ?_
    rintro e w1 ⟨rfl, k1⟩
    have b1 := bstep b0 k1
    have G0 := F0.below k1
    have G1 := F1.below k1
    clear k1 b0 F0 F1 IA
    obtain ⟨u0, u1, u2, u3, u4, u5, u6⟩ := id G0
    obtain ⟨v0, v1, v2, v3, v4, v5, v6⟩ := id G1
    simp only [Nat.zero_add] at u1 u2 u3 u4 u5 u6 v1 v2 v3 v4 v5 v6
    go_wp2_with fail
    refine (unhide IB _).mono ?_
    rintro e w2 ⟨rfl, k2⟩
    have b2 := bstep b1 k2
    have H0 := G0.below k2
    have H1 := G1.below k2
    clear k2 b1 G0 G1 IB u0 u1 u2 u3 u4 u5 u6 v0 v1 v2 v3 v4 v5 v6
    obtain ⟨u0, u1, u2, u3, u4, u5, u6⟩ := H0
    obtain ⟨v0, v1, v2, v3, v4, v5, v6⟩ := H1
    simp only [Nat.zero_add] at u1 u2 u3 u4 u5 u6 v1 v2 v3 v4 v5 v6
    have EN := hide (env2 (w := w2.alloc (Obj.cells #[.string ⟨#[97]⟩, .int .i64 3, .bool false, .int .i64 0, .int .i64 0, .string a, .slice none 0 0, .string ⟨#[98]⟩, .int .i64 3, .bool false, .int .i64 0, .int .i64 0, .string b, .slice none 0 0] 28)) (g := w2.heap.size) ⟨#[97]⟩ ⟨#[98]⟩ (texV a) (texV b) (caT_in (unhide HMA) _) (caT_in (unhide HMB) _) (by go_simp) (fun j hj => by match j, hj with | 0, _ => (go_simp; rfl) | 1, _ => (go_simp; rfl) | 2, _ => (go_simp; rfl) | 3, _ => (go_simp; rfl) | 4, _ => (go_simp; rfl) | 5, _ => (go_simp; rfl)) (by go_simp) (fun j hj => by match j, hj with | 0, _ => (go_simp; rfl) | 1, _ => (go_simp; rfl) | 2, _ => (go_simp; rfl) | 3, _ => (go_simp; rfl) | 4, _ => (go_simp; rfl) | 5, _ => (go_simp; rfl)))
    have BZ := bstep b2 (below1 _ (Obj.cells #[.string ⟨#[97]⟩, .int .i64 3, .bool false, .int .i64 0, .int .i64 0, .string a, .slice none 0 0, .string ⟨#[98]⟩, .int .i64 3, .bool false, .int .i64 0, .int .i64 0, .string b, .slice none 0 0] 28))
    clear b2
    go_wp2_with fail
    generalize w2.alloc (Obj.cells #[.string ⟨#[97]⟩, .int .i64 3, .bool false, .int .i64 0, .int .i64 0, .string a, .slice none 0 0, .string ⟨#[98]⟩, .int .i64 3, .bool false, .int .i64 0, .int .i64 0, .string b, .slice none 0 0] 28) = V at *
    generalize w2.heap.size = gV at *
    clear u0 u1 u2 u3 u4 u5 u6 v0 v1 v2 v3 v4 v5 v6
    refine (unhide TD0 _ _ (unhide EN)).mono ?_
    rintro e v1 ⟨⟨v, rfl, T, rfl, hT, hTl, hTb⟩, k1⟩
    obtain ⟨a0, d0, kid0, rfl⟩ := leaf_form (k := 0) (b := false) (m := 0) (s := 0) (t := ⟨#[]⟩) hT hTb
    have HT0 := hide hT
    have EN' := hide (((unhide EN).below k1).below (below1 v1 (Obj.cells #[.int .i64 0, .bool false, .int .i64 0, .int .i64 0, .string ⟨#[]⟩, .slice a0 0 d0] 26)))
    have BZ' := bstep (bstep BZ k1) (below1 v1 (Obj.cells #[.int .i64 0, .bool false, .int .i64 0, .int .i64 0, .string ⟨#[]⟩, .slice a0 0 d0] 26))
    have X0_0 := six_new v1 0 false 0 0 ⟨#[]⟩ a0 0 d0
    clear hT hTl hTb k1 BZ EN TD0 
    have EN := EN'
    have BZ := BZ'
    clear EN' BZ'
    dsimp only [VT.val]
    go_wp2_with fail
    generalize v1.alloc (Obj.cells #[.int .i64 0, .bool false, .int .i64 0, .int .i64 0, .string ⟨#[]⟩, .slice a0 0 d0] 26) = y1 at *
    generalize v1.heap.size = g0 at *
    refine (unhide TD1 _ _ (unhide EN)).mono ?_
    rintro e v2 ⟨⟨v, rfl, T, rfl, hT, hTl, hTb⟩, k1⟩
    obtain ⟨a1, d1, kid1, rfl⟩ := leaf_form (k := 0) (b := false) (m := 0) (s := 0) (t := ⟨#[]⟩) hT hTb
    have HT1 := hide hT
    have EN' := hide (((unhide EN).below k1).below (below1 v2 (Obj.cells #[.int .i64 0, .bool false, .int .i64 0, .int .i64 0, .string ⟨#[]⟩, .slice a1 0 d1] 26)))
    have BZ' := bstep (bstep BZ k1) (below1 v2 (Obj.cells #[.int .i64 0, .bool false, .int .i64 0, .int .i64 0, .string ⟨#[]⟩, .slice a1 0 d1] 26))
    have X0_1 := (X0_0.below k1).below (below1 v2 (Obj.cells #[.int .i64 0, .bool false, .int .i64 0, .int .i64 0, .string ⟨#[]⟩, .slice a1 0 d1] 26))
    have X1_1 := six_new v2 0 false 0 0 ⟨#[]⟩ a1 0 d1
    clear hT hTl hTb k1 BZ EN TD1 X0_0
    have EN := EN'
    have BZ := BZ'
    clear EN' BZ'
    dsimp only [VT.val]
    go_wp2_with fail
    generalize v2.alloc (Obj.cells #[.int .i64 0, .bool false, .int .i64 0, .int .i64 0, .string ⟨#[]⟩, .slice a1 0 d1] 26) = y2 at *
    generalize v2.heap.size = g1 at *
    refine (unhide TD2 _ _ (unhide EN)).mono ?_
    rintro e v3 ⟨⟨v, rfl, T, rfl, hT, hTl, hTb⟩, k1⟩
    obtain ⟨a2, d2, kid2, rfl⟩ := leaf_form (k := 2) (b := false) (m := (a.size : Int)) (s := 0) (t := ⟨#[]⟩) hT hTb
    have HT2 := hide hT
    have EN' := hide (((unhide EN).below k1).below (below1 v3 (Obj.cells #[.int .i64 2, .bool false, .int .i64 (a.size : Int), .int .i64 0, .string ⟨#[]⟩, .slice a2 0 d2] 26)))
    have BZ' := bstep (bstep BZ k1) (below1 v3 (Obj.cells #[.int .i64 2, .bool false, .int .i64 (a.size : Int), .int .i64 0, .string ⟨#[]⟩, .slice a2 0 d2] 26))
    have X0_2 := (X0_1.below k1).below (below1 v3 (Obj.cells #[.int .i64 2, .bool false, .int .i64 (a.size : Int), .int .i64 0, .string ⟨#[]⟩, .slice a2 0 d2] 26))
    have X1_2 := (X1_1.below k1).below (below1 v3 (Obj.cells #[.int .i64 2, .bool false, .int .i64 (a.size : Int), .int .i64 0, .string ⟨#[]⟩, .slice a2 0 d2] 26))
    have X2_2 := six_new v3 2 false (a.size : Int) 0 ⟨#[]⟩ a2 0 d2
    clear hT hTl hTb k1 BZ EN TD2 X0_1 X1_1
    have EN := EN'
    have BZ := BZ'
    clear EN' BZ'
    dsimp only [VT.val]
    go_upto_region 8 with fail
    generalize v3.alloc (Obj.cells #[.int .i64 2, .bool false, .int .i64 (a.size : Int), .int .i64 0, .string ⟨#[]⟩, .slice a2 0 d2] 26) = y3 at *
    generalize v3.heap.size = g2 at *
    clear EN
    obtain ⟨y00, y01, y02, y03, y04, y05, y06⟩ := X0_2
    obtain ⟨y10, y11, y12, y13, y14, y15, y16⟩ := X1_2
    obtain ⟨y20, y21, y22, y23, y24, y25, y26⟩ := X2_2
    simp only [Nat.zero_add] at y01 y02 y03 y04 y05 y06 y11 y12 y13 y14 y15 y16 y21 y22 y23 y24 y25 y26
    have SK : Hid (∀ w', Below y3.heap.size y3 w' → (Below y3.heap.size y3 w' ∧ w'.cell? ⟨g0, 0, none⟩ = some (.int .i64 0) ∧ w'.cell? ⟨g0, 1, none⟩ = some (.bool false) ∧ w'.cell? ⟨g0, 2, none⟩ = some (.int .i64 0) ∧ w'.cell? ⟨g0, 3, none⟩ = some (.int .i64 0) ∧ w'.cell? ⟨g0, 4, none⟩ = some (.string ⟨#[]⟩) ∧ w'.cell? ⟨g0, 5, none⟩ = some (.slice a0 0 d0) ∧ w'.cell? ⟨g1, 0, none⟩ = some (.int .i64 0) ∧ w'.cell? ⟨g1, 1, none⟩ = some (.bool false) ∧ w'.cell? ⟨g1, 2, none⟩ = some (.int .i64 0) ∧ w'.cell? ⟨g1, 3, none⟩ = some (.int .i64 0) ∧ w'.cell? ⟨g1, 4, none⟩ = some (.string ⟨#[]⟩) ∧ w'.cell? ⟨g1, 5, none⟩ = some (.slice a1 0 d1) ∧ w'.cell? ⟨g2, 0, none⟩ = some (.int .i64 2) ∧ w'.cell? ⟨g2, 1, none⟩ = some (.bool false) ∧ w'.cell? ⟨g2, 2, none⟩ = some (.int .i64 (a.size : Int)) ∧ w'.cell? ⟨g2, 3, none⟩ = some (.int .i64 0) ∧ w'.cell? ⟨g2, 4, none⟩ = some (.string ⟨#[]⟩) ∧ w'.cell? ⟨g2, 5, none⟩ = some (.slice a2 0 d2))) := hide (fun w' kk => ⟨kk, kcell kk (World.block_lt_of_cell? _ _ y01) y01, kcell kk (World.block_lt_of_cell? _ _ y02) y02, kcell kk (World.block_lt_of_cell? _ _ y03) y03, kcell kk (World.block_lt_of_cell? _ _ y04) y04, kcell kk (World.block_lt_of_cell? _ _ y05) y05, kcell kk (World.block_lt_of_cell? _ _ y06) y06, kcell kk (World.block_lt_of_cell? _ _ y11) y11, kcell kk (World.block_lt_of_cell? _ _ y12) y12, kcell kk (World.block_lt_of_cell? _ _ y13) y13, kcell kk (World.block_lt_of_cell? _ _ y14) y14, kcell kk (World.block_lt_of_cell? _ _ y15) y15, kcell kk (World.block_lt_of_cell? _ _ y16) y16, kcell kk (World.block_lt_of_cell? _ _ y21) y21, kcell kk (World.block_lt_of_cell? _ _ y22) y22, kcell kk (World.block_lt_of_cell? _ _ y23) y23, kcell kk (World.block_lt_of_cell? _ _ y24) y24, kcell kk (World.block_lt_of_cell? _ _ y25) y25, kcell kk (World.block_lt_of_cell? _ _ y26) y26⟩)
    clear y00 y01 y02 y03 y04 y05 y06 y10 y11 y12 y13 y14 y15 y16 y20 y21 y22 y23 y24 y25 y26
    refine wp_region_noPanic ?_
    refine wp_region_held_drew (S := fun w' => Below y3.heap.size y3 w' ∧ w'.cell? ⟨g0, 0, none⟩ = some (.int .i64 0) ∧ w'.cell? ⟨g0, 1, none⟩ = some (.bool false) ∧ w'.cell? ⟨g0, 2, none⟩ = some (.int .i64 0) ∧ w'.cell? ⟨g0, 3, none⟩ = some (.int .i64 0) ∧ w'.cell? ⟨g0, 4, none⟩ = some (.string ⟨#[]⟩) ∧ w'.cell? ⟨g0, 5, none⟩ = some (.slice a0 0 d0) ∧ w'.cell? ⟨g1, 0, none⟩ = some (.int .i64 0) ∧ w'.cell? ⟨g1, 1, none⟩ = some (.bool false) ∧ w'.cell? ⟨g1, 2, none⟩ = some (.int .i64 0) ∧ w'.cell? ⟨g1, 3, none⟩ = some (.int .i64 0) ∧ w'.cell? ⟨g1, 4, none⟩ = some (.string ⟨#[]⟩) ∧ w'.cell? ⟨g1, 5, none⟩ = some (.slice a1 0 d1) ∧ w'.cell? ⟨g2, 0, none⟩ = some (.int .i64 2) ∧ w'.cell? ⟨g2, 1, none⟩ = some (.bool false) ∧ w'.cell? ⟨g2, 2, none⟩ = some (.int .i64 (a.size : Int)) ∧ w'.cell? ⟨g2, 3, none⟩ = some (.int .i64 0) ∧ w'.cell? ⟨g2, 4, none⟩ = some (.string ⟨#[]⟩) ∧ w'.cell? ⟨g2, 5, none⟩ = some (.slice a2 0 d2)) (by kernel_rfl) ?hS0r (fun hHeld => ?_)
    case hS0r => exact unhide SK _ (Below.refl _ _).drew
    have jdr : Below y3.heap.size y3 y3.drew := (Below.refl _ _).drew
    clear jdr
    generalize y3.drew = u0r at *
    refine takeAt 0 (some 54) ?vr0x0 ⟨_, rfl, rfl, rfl, ?hyr0x0⟩ (by kernel_rfl) (by kernel_rfl) (by kernel_rfl) (fun _ _ _ h => h) (by assumption) ?_
    case hyr0x0 => (intro w0 hSw; (try dsimp only at hSw); go_simp; try (with_reducible rfl))
    simp only [Act.put, List.setIfInBounds_toArray, List.set_cons_zero, List.set_cons_succ]
    refine takeAt 1 (some 55) ?vr1x0 ⟨_, rfl, rfl, rfl, ?hyr1x0⟩ (by kernel_rfl) (by kernel_rfl) (by kernel_rfl) (fun _ _ _ h => h) (by assumption) ?_
    case hyr1x0 => (intro w0 hSw; (try dsimp only at hSw); go_simp; try (with_reducible rfl))
    simp only [Act.put, List.setIfInBounds_toArray, List.set_cons_zero, List.set_cons_succ]
    refine takeAt 2 (some 56) ?vr2x0 ⟨_, rfl, rfl, rfl, ?hyr2x0⟩ (by kernel_rfl) (by kernel_rfl) (by kernel_rfl) (fun _ _ _ h => h) (by assumption) ?_
    case hyr2x0 => (intro w0 hSw; (try dsimp only at hSw); go_simp; try (with_reducible rfl))
    simp only [Act.put, List.setIfInBounds_toArray, List.set_cons_zero, List.set_cons_succ]
    refine takeAt 3 (some 57) ?vr3x0 ⟨_, rfl, rfl, rfl, ?hyr3x0⟩ (by kernel_rfl) (by kernel_rfl) (by kernel_rfl) (fun _ _ _ h => h) (by assumption) ?_
    case hyr3x0 => (intro w0 hSw; (try dsimp only at hSw); go_simp; try (with_reducible rfl))
    simp only [Act.put, List.setIfInBounds_toArray, List.set_cons_zero, List.set_cons_succ]
    refine takeAt 4 (some 58) ?vr4x0 ⟨_, rfl, rfl, rfl, ?hyr4x0⟩ (by kernel_rfl) (by kernel_rfl) (by kernel_rfl) (fun _ _ _ h => h) (by assumption) ?_
    case hyr4x0 => (intro w0 hSw; (try dsimp only at hSw); go_simp; try (with_reducible rfl))
    simp only [Act.put, List.setIfInBounds_toArray, List.set_cons_zero, List.set_cons_succ]
    refine takeAt 5 (some 59) ?vr5x0 ⟨_, rfl, rfl, rfl, ?hyr5x0⟩ (by kernel_rfl) (by kernel_rfl) (by kernel_rfl) (fun _ _ _ h => h) (by assumption) ?_
    case hyr5x0 => (intro w0 hSw; (try dsimp only at hSw); go_simp; try (with_reducible rfl))
    simp only [Act.put, List.setIfInBounds_toArray, List.set_cons_zero, List.set_cons_succ]
    refine wpAnyH_ready (rs := [6]) (by kernel_rfl) (by simp) ?_
    refine AllReadyH.cons rfl (fun K0 hK0 => ?_) AllReadyH.nil
    go_simp
    refine (lnum_any _ _).mono ?_
    rintro e u1r ⟨rfl, j1r⟩
    unfold lfv
    go_wp2_with fail
    refine hK0.out _ _ ?hS1r (fun hHeld1 => ?_)
    case hS1r => exact unhide SK _ (keep_call hHeld j1r)
    clear hK0 K0
    clear j1r
    clear hHeld 
    have hHeld := hHeld1
    clear hHeld1
    try simp only [Act.put, List.setIfInBounds_toArray, List.set_cons_zero, List.set_cons_succ]
    refine wpAnyH_ready (rs := [7]) (by kernel_rfl) (by simp) ?_
    refine AllReadyH.cons rfl (fun K0 hK0 => ?_) AllReadyH.nil
    go_simp
    refine (slf_same 2 false (a.size : Int) 0 ⟨#[]⟩ a2 d2 kid2 (unhide HT2) _).mono ?_
    rintro e u2r ⟨rfl, j2r⟩
    go_wp2_with fail
    refine hK0.out _ _ ?hS2r (fun hHeld1 => ?_)
    case hS2r => exact unhide SK _ (keep_call hHeld j2r)
    clear hK0 K0
    clear j2r
    clear hHeld 
    have hHeld := hHeld1
    clear hHeld1
    try simp only [Act.put, List.setIfInBounds_toArray, List.set_cons_zero, List.set_cons_succ]
    refine takeAt 8 (some 62) ?vr8x2 ⟨_, rfl, rfl, rfl, ?hyr8x2⟩ (by kernel_rfl) (by kernel_rfl) (by kernel_rfl) (fun _ _ _ h => h) (by assumption) ?_
    case hyr8x2 => (intro w0 hSw; (try dsimp only at hSw); go_simp; try (with_reducible rfl))
    simp only [Act.put, List.setIfInBounds_toArray, List.set_cons_zero, List.set_cons_succ]
    refine takeAt 9 (some 63) ?vr9x2 ⟨_, rfl, rfl, rfl, ?hyr9x2⟩ (by kernel_rfl) (by kernel_rfl) (by kernel_rfl) (fun _ _ _ h => h) (by assumption) ?_
    case hyr9x2 => (intro w0 hSw; (try dsimp only at hSw); go_simp; try (with_reducible rfl))
    simp only [Act.put, List.setIfInBounds_toArray, List.set_cons_zero, List.set_cons_succ]
    refine wpAnyH_done (by kernel_rfl) ?_ _
    refine NoPanic.normal ?_
    obtain ⟨BQ, y01, y02, y03, y04, y05, y06, y11, y12, y13, y14, y15, y16, y21, y22, y23, y24, y25, y26⟩ := hHeld
    have BF := bstep BZ BQ
    clear BZ BQ SK y21 y22 y23 y24 y25 y26
    go_wp2_with fail
    refine (eknown_any _).mono ?_
    rintro e w7 ⟨rfl, k7⟩
    go_wp2_with fail
    go_ret
    exact ⟨rfl, bstep BF k7⟩
  · rw [if_neg hs] at TD0 TD1
    have hs1 : ¬ 16 < (a.size : Int) + (b.size : Int) := by omega
    clear hs
    go_enter Tryz.func4, Tryz.ntmps4
    go_wp2_with fail
    refine (unhide IA _).mono ?_
    rintro e w1 ⟨rfl, k1⟩
    have b1 := bstep b0 k1
    have G0 := F0.below k1
    have G1 := F1.below k1
    clear k1 b0 F0 F1 IA
    obtain ⟨u0, u1, u2, u3, u4, u5, u6⟩ := id G0
    obtain ⟨v0, v1, v2, v3, v4, v5, v6⟩ := id G1
    simp only [Nat.zero_add] at u1 u2 u3 u4 u5 u6 v1 v2 v3 v4 v5 v6
    go_wp2_with fail
    refine (unhide IB _).mono ?_
    rintro e w2 ⟨rfl, k2⟩
    have b2 := bstep b1 k2
    have H0 := G0.below k2
    have H1 := G1.below k2
    clear k2 b1 G0 G1 IB u0 u1 u2 u3 u4 u5 u6 v0 v1 v2 v3 v4 v5 v6
    obtain ⟨u0, u1, u2, u3, u4, u5, u6⟩ := H0
    obtain ⟨v0, v1, v2, v3, v4, v5, v6⟩ := H1
    simp only [Nat.zero_add] at u1 u2 u3 u4 u5 u6 v1 v2 v3 v4 v5 v6
    have EN := hide (env2 (w := w2.alloc (Obj.cells #[.string ⟨#[97]⟩, .int .i64 3, .bool false, .int .i64 0, .int .i64 0, .string a, .slice none 0 0, .string ⟨#[98]⟩, .int .i64 3, .bool false, .int .i64 0, .int .i64 0, .string b, .slice none 0 0] 28)) (g := w2.heap.size) ⟨#[97]⟩ ⟨#[98]⟩ (texV a) (texV b) (caT_in (unhide HMA) _) (caT_in (unhide HMB) _) (by go_simp) (fun j hj => by match j, hj with | 0, _ => (go_simp; rfl) | 1, _ => (go_simp; rfl) | 2, _ => (go_simp; rfl) | 3, _ => (go_simp; rfl) | 4, _ => (go_simp; rfl) | 5, _ => (go_simp; rfl)) (by go_simp) (fun j hj => by match j, hj with | 0, _ => (go_simp; rfl) | 1, _ => (go_simp; rfl) | 2, _ => (go_simp; rfl) | 3, _ => (go_simp; rfl) | 4, _ => (go_simp; rfl) | 5, _ => (go_simp; rfl)))
    have BZ := bstep b2 (below1 _ (Obj.cells #[.string ⟨#[97]⟩, .int .i64 3, .bool false, .int .i64 0, .int .i64 0, .string a, .slice none 0 0, .string ⟨#[98]⟩, .int .i64 3, .bool false, .int .i64 0, .int .i64 0, .string b, .slice none 0 0] 28))
    clear b2
    go_wp2_with fail
    generalize w2.alloc (Obj.cells #[.string ⟨#[97]⟩, .int .i64 3, .bool false, .int .i64 0, .int .i64 0, .string a, .slice none 0 0, .string ⟨#[98]⟩, .int .i64 3, .bool false, .int .i64 0, .int .i64 0, .string b, .slice none 0 0] 28) = V at *
    generalize w2.heap.size = gV at *
    clear u0 u1 u2 u3 u4 u5 u6 v0 v1 v2 v3 v4 v5 v6
    refine (unhide TD0 _ _ (unhide EN)).mono ?_
    rintro e v1 ⟨⟨v, rfl, T, rfl, hT, hTl, hTb⟩, k1⟩
    obtain ⟨a0, d0, kid0, rfl⟩ := leaf_form (k := 3) (b := false) (m := 0) (s := 0) (t := (a ++ b)) hT hTb
    have HT0 := hide hT
    have EN' := hide (((unhide EN).below k1).below (below1 v1 (Obj.cells #[.int .i64 3, .bool false, .int .i64 0, .int .i64 0, .string (a ++ b), .slice a0 0 d0] 26)))
    have BZ' := bstep (bstep BZ k1) (below1 v1 (Obj.cells #[.int .i64 3, .bool false, .int .i64 0, .int .i64 0, .string (a ++ b), .slice a0 0 d0] 26))
    have X0_0 := six_new v1 3 false 0 0 (a ++ b) a0 0 d0
    clear hT hTl hTb k1 BZ EN TD0 
    have EN := EN'
    have BZ := BZ'
    clear EN' BZ'
    dsimp only [VT.val]
    go_wp2_with fail
    generalize v1.alloc (Obj.cells #[.int .i64 3, .bool false, .int .i64 0, .int .i64 0, .string (a ++ b), .slice a0 0 d0] 26) = y1 at *
    generalize v1.heap.size = g0 at *
    refine (unhide TD1 _ _ (unhide EN)).mono ?_
    rintro e v2 ⟨⟨v, rfl, T, rfl, hT, hTl, hTb⟩, k1⟩
    obtain ⟨a1, d1, kid1, rfl⟩ := leaf_form (k := 3) (b := false) (m := 0) (s := 0) (t := (a ++ b)) hT hTb
    have HT1 := hide hT
    have EN' := hide (((unhide EN).below k1).below (below1 v2 (Obj.cells #[.int .i64 3, .bool false, .int .i64 0, .int .i64 0, .string (a ++ b), .slice a1 0 d1] 26)))
    have BZ' := bstep (bstep BZ k1) (below1 v2 (Obj.cells #[.int .i64 3, .bool false, .int .i64 0, .int .i64 0, .string (a ++ b), .slice a1 0 d1] 26))
    have X0_1 := (X0_0.below k1).below (below1 v2 (Obj.cells #[.int .i64 3, .bool false, .int .i64 0, .int .i64 0, .string (a ++ b), .slice a1 0 d1] 26))
    have X1_1 := six_new v2 3 false 0 0 (a ++ b) a1 0 d1
    clear hT hTl hTb k1 BZ EN TD1 X0_0
    have EN := EN'
    have BZ := BZ'
    clear EN' BZ'
    dsimp only [VT.val]
    go_wp2_with fail
    generalize v2.alloc (Obj.cells #[.int .i64 3, .bool false, .int .i64 0, .int .i64 0, .string (a ++ b), .slice a1 0 d1] 26) = y2 at *
    generalize v2.heap.size = g1 at *
    refine (unhide TD2 _ _ (unhide EN)).mono ?_
    rintro e v3 ⟨⟨v, rfl, T, rfl, hT, hTl, hTb⟩, k1⟩
    obtain ⟨a2, d2, kid2, rfl⟩ := leaf_form (k := 2) (b := false) (m := (a.size : Int)) (s := 0) (t := ⟨#[]⟩) hT hTb
    have HT2 := hide hT
    have EN' := hide (((unhide EN).below k1).below (below1 v3 (Obj.cells #[.int .i64 2, .bool false, .int .i64 (a.size : Int), .int .i64 0, .string ⟨#[]⟩, .slice a2 0 d2] 26)))
    have BZ' := bstep (bstep BZ k1) (below1 v3 (Obj.cells #[.int .i64 2, .bool false, .int .i64 (a.size : Int), .int .i64 0, .string ⟨#[]⟩, .slice a2 0 d2] 26))
    have X0_2 := (X0_1.below k1).below (below1 v3 (Obj.cells #[.int .i64 2, .bool false, .int .i64 (a.size : Int), .int .i64 0, .string ⟨#[]⟩, .slice a2 0 d2] 26))
    have X1_2 := (X1_1.below k1).below (below1 v3 (Obj.cells #[.int .i64 2, .bool false, .int .i64 (a.size : Int), .int .i64 0, .string ⟨#[]⟩, .slice a2 0 d2] 26))
    have X2_2 := six_new v3 2 false (a.size : Int) 0 ⟨#[]⟩ a2 0 d2
    clear hT hTl hTb k1 BZ EN TD2 X0_1 X1_1
    have EN := EN'
    have BZ := BZ'
    clear EN' BZ'
    dsimp only [VT.val]
    go_upto_region 8 with fail
    generalize v3.alloc (Obj.cells #[.int .i64 2, .bool false, .int .i64 (a.size : Int), .int .i64 0, .string ⟨#[]⟩, .slice a2 0 d2] 26) = y3 at *
    generalize v3.heap.size = g2 at *
    clear EN
    obtain ⟨y00, y01, y02, y03, y04, y05, y06⟩ := X0_2
    obtain ⟨y10, y11, y12, y13, y14, y15, y16⟩ := X1_2
    obtain ⟨y20, y21, y22, y23, y24, y25, y26⟩ := X2_2
    simp only [Nat.zero_add] at y01 y02 y03 y04 y05 y06 y11 y12 y13 y14 y15 y16 y21 y22 y23 y24 y25 y26
    have SK : Hid (∀ w', Below y3.heap.size y3 w' → (Below y3.heap.size y3 w' ∧ w'.cell? ⟨g0, 0, none⟩ = some (.int .i64 3) ∧ w'.cell? ⟨g0, 1, none⟩ = some (.bool false) ∧ w'.cell? ⟨g0, 2, none⟩ = some (.int .i64 0) ∧ w'.cell? ⟨g0, 3, none⟩ = some (.int .i64 0) ∧ w'.cell? ⟨g0, 4, none⟩ = some (.string (a ++ b)) ∧ w'.cell? ⟨g0, 5, none⟩ = some (.slice a0 0 d0) ∧ w'.cell? ⟨g1, 0, none⟩ = some (.int .i64 3) ∧ w'.cell? ⟨g1, 1, none⟩ = some (.bool false) ∧ w'.cell? ⟨g1, 2, none⟩ = some (.int .i64 0) ∧ w'.cell? ⟨g1, 3, none⟩ = some (.int .i64 0) ∧ w'.cell? ⟨g1, 4, none⟩ = some (.string (a ++ b)) ∧ w'.cell? ⟨g1, 5, none⟩ = some (.slice a1 0 d1) ∧ w'.cell? ⟨g2, 0, none⟩ = some (.int .i64 2) ∧ w'.cell? ⟨g2, 1, none⟩ = some (.bool false) ∧ w'.cell? ⟨g2, 2, none⟩ = some (.int .i64 (a.size : Int)) ∧ w'.cell? ⟨g2, 3, none⟩ = some (.int .i64 0) ∧ w'.cell? ⟨g2, 4, none⟩ = some (.string ⟨#[]⟩) ∧ w'.cell? ⟨g2, 5, none⟩ = some (.slice a2 0 d2))) := hide (fun w' kk => ⟨kk, kcell kk (World.block_lt_of_cell? _ _ y01) y01, kcell kk (World.block_lt_of_cell? _ _ y02) y02, kcell kk (World.block_lt_of_cell? _ _ y03) y03, kcell kk (World.block_lt_of_cell? _ _ y04) y04, kcell kk (World.block_lt_of_cell? _ _ y05) y05, kcell kk (World.block_lt_of_cell? _ _ y06) y06, kcell kk (World.block_lt_of_cell? _ _ y11) y11, kcell kk (World.block_lt_of_cell? _ _ y12) y12, kcell kk (World.block_lt_of_cell? _ _ y13) y13, kcell kk (World.block_lt_of_cell? _ _ y14) y14, kcell kk (World.block_lt_of_cell? _ _ y15) y15, kcell kk (World.block_lt_of_cell? _ _ y16) y16, kcell kk (World.block_lt_of_cell? _ _ y21) y21, kcell kk (World.block_lt_of_cell? _ _ y22) y22, kcell kk (World.block_lt_of_cell? _ _ y23) y23, kcell kk (World.block_lt_of_cell? _ _ y24) y24, kcell kk (World.block_lt_of_cell? _ _ y25) y25, kcell kk (World.block_lt_of_cell? _ _ y26) y26⟩)
    clear y00 y01 y02 y03 y04 y05 y06 y10 y11 y12 y13 y14 y15 y16 y20 y21 y22 y23 y24 y25 y26
    refine wp_region_noPanic ?_
    refine wp_region_held_drew (S := fun w' => Below y3.heap.size y3 w' ∧ w'.cell? ⟨g0, 0, none⟩ = some (.int .i64 3) ∧ w'.cell? ⟨g0, 1, none⟩ = some (.bool false) ∧ w'.cell? ⟨g0, 2, none⟩ = some (.int .i64 0) ∧ w'.cell? ⟨g0, 3, none⟩ = some (.int .i64 0) ∧ w'.cell? ⟨g0, 4, none⟩ = some (.string (a ++ b)) ∧ w'.cell? ⟨g0, 5, none⟩ = some (.slice a0 0 d0) ∧ w'.cell? ⟨g1, 0, none⟩ = some (.int .i64 3) ∧ w'.cell? ⟨g1, 1, none⟩ = some (.bool false) ∧ w'.cell? ⟨g1, 2, none⟩ = some (.int .i64 0) ∧ w'.cell? ⟨g1, 3, none⟩ = some (.int .i64 0) ∧ w'.cell? ⟨g1, 4, none⟩ = some (.string (a ++ b)) ∧ w'.cell? ⟨g1, 5, none⟩ = some (.slice a1 0 d1) ∧ w'.cell? ⟨g2, 0, none⟩ = some (.int .i64 2) ∧ w'.cell? ⟨g2, 1, none⟩ = some (.bool false) ∧ w'.cell? ⟨g2, 2, none⟩ = some (.int .i64 (a.size : Int)) ∧ w'.cell? ⟨g2, 3, none⟩ = some (.int .i64 0) ∧ w'.cell? ⟨g2, 4, none⟩ = some (.string ⟨#[]⟩) ∧ w'.cell? ⟨g2, 5, none⟩ = some (.slice a2 0 d2)) (by kernel_rfl) ?hS0s (fun hHeld => ?_)
    case hS0s => exact unhide SK _ (Below.refl _ _).drew
    have jds : Below y3.heap.size y3 y3.drew := (Below.refl _ _).drew
    clear jds
    generalize y3.drew = u0s at *
    refine takeAt 0 (some 54) ?vs0x0 ⟨_, rfl, rfl, rfl, ?hys0x0⟩ (by kernel_rfl) (by kernel_rfl) (by kernel_rfl) (fun _ _ _ h => h) (by assumption) ?_
    case hys0x0 => (intro w0 hSw; (try dsimp only at hSw); go_simp; try (with_reducible rfl))
    simp only [Act.put, List.setIfInBounds_toArray, List.set_cons_zero, List.set_cons_succ]
    refine takeAt 1 (some 55) ?vs1x0 ⟨_, rfl, rfl, rfl, ?hys1x0⟩ (by kernel_rfl) (by kernel_rfl) (by kernel_rfl) (fun _ _ _ h => h) (by assumption) ?_
    case hys1x0 => (intro w0 hSw; (try dsimp only at hSw); go_simp; try (with_reducible rfl))
    simp only [Act.put, List.setIfInBounds_toArray, List.set_cons_zero, List.set_cons_succ]
    refine takeAt 2 (some 56) ?vs2x0 ⟨_, rfl, rfl, rfl, ?hys2x0⟩ (by kernel_rfl) (by kernel_rfl) (by kernel_rfl) (fun _ _ _ h => h) (by assumption) ?_
    case hys2x0 => (intro w0 hSw; (try dsimp only at hSw); go_simp; try (with_reducible rfl))
    simp only [Act.put, List.setIfInBounds_toArray, List.set_cons_zero, List.set_cons_succ]
    refine takeAt 3 (some 57) ?vs3x0 ⟨_, rfl, rfl, rfl, ?hys3x0⟩ (by kernel_rfl) (by kernel_rfl) (by kernel_rfl) (fun _ _ _ h => h) (by assumption) ?_
    case hys3x0 => (intro w0 hSw; (try dsimp only at hSw); go_simp; try (with_reducible rfl))
    simp only [Act.put, List.setIfInBounds_toArray, List.set_cons_zero, List.set_cons_succ]
    refine takeAt 4 (some 58) ?vs4x0 ⟨_, rfl, rfl, rfl, ?hys4x0⟩ (by kernel_rfl) (by kernel_rfl) (by kernel_rfl) (fun _ _ _ h => h) (by assumption) ?_
    case hys4x0 => (intro w0 hSw; (try dsimp only at hSw); go_simp; try (with_reducible rfl))
    simp only [Act.put, List.setIfInBounds_toArray, List.set_cons_zero, List.set_cons_succ]
    refine takeAt 5 (some 59) ?vs5x0 ⟨_, rfl, rfl, rfl, ?hys5x0⟩ (by kernel_rfl) (by kernel_rfl) (by kernel_rfl) (fun _ _ _ h => h) (by assumption) ?_
    case hys5x0 => (intro w0 hSw; (try dsimp only at hSw); go_simp; try (with_reducible rfl))
    simp only [Act.put, List.setIfInBounds_toArray, List.set_cons_zero, List.set_cons_succ]
    refine wpAnyH_ready (rs := [6]) (by kernel_rfl) (by simp) ?_
    refine AllReadyH.cons rfl (fun K0 hK0 => ?_) AllReadyH.nil
    go_simp
    refine (lnum_any _ _).mono ?_
    rintro e u1s ⟨rfl, j1s⟩
    unfold lfv
    go_wp2_with fail
    refine hK0.out _ _ ?hS1s (fun hHeld1 => ?_)
    case hS1s => exact unhide SK _ (keep_call hHeld j1s)
    clear hK0 K0
    clear j1s
    clear hHeld 
    have hHeld := hHeld1
    clear hHeld1
    try simp only [Act.put, List.setIfInBounds_toArray, List.set_cons_zero, List.set_cons_succ]
    refine wpAnyH_ready (rs := [7]) (by kernel_rfl) (by simp) ?_
    refine AllReadyH.cons rfl (fun K0 hK0 => ?_) AllReadyH.nil
    go_simp
    refine (slf_same 2 false (a.size : Int) 0 ⟨#[]⟩ a2 d2 kid2 (unhide HT2) _).mono ?_
    rintro e u2s ⟨rfl, j2s⟩
    go_wp2_with fail
    refine hK0.out _ _ ?hS2s (fun hHeld1 => ?_)
    case hS2s => exact unhide SK _ (keep_call hHeld j2s)
    clear hK0 K0
    clear j2s
    clear hHeld 
    have hHeld := hHeld1
    clear hHeld1
    try simp only [Act.put, List.setIfInBounds_toArray, List.set_cons_zero, List.set_cons_succ]
    refine takeAt 8 (some 62) ?vs8x2 ⟨_, rfl, rfl, rfl, ?hys8x2⟩ (by kernel_rfl) (by kernel_rfl) (by kernel_rfl) (fun _ _ _ h => h) (by assumption) ?_
    case hys8x2 => (intro w0 hSw; (try dsimp only at hSw); go_simp; try (with_reducible rfl))
    simp only [Act.put, List.setIfInBounds_toArray, List.set_cons_zero, List.set_cons_succ]
    refine takeAt 9 (some 63) ?vs9x2 ⟨_, rfl, rfl, rfl, ?hys9x2⟩ (by kernel_rfl) (by kernel_rfl) (by kernel_rfl) (fun _ _ _ h => h) (by assumption) ?_
    case hys9x2 => (intro w0 hSw; (try dsimp only at hSw); go_simp; try (with_reducible rfl))
    simp only [Act.put, List.setIfInBounds_toArray, List.set_cons_zero, List.set_cons_succ]
    refine wpAnyH_done (by kernel_rfl) ?_ _
    refine NoPanic.normal ?_
    obtain ⟨BQ, y01, y02, y03, y04, y05, y06, y11, y12, y13, y14, y15, y16, y21, y22, y23, y24, y25, y26⟩ := hHeld
    have BF := bstep BZ BQ
    clear BZ BQ SK y21 y22 y23 y24 y25 y26
    go_wp2_with fail
    refine (slf_two 3 false 0 0 (a ++ b) a0 d0 kid0 a1 d1 kid1 (unhide HT0) (unhide HT1) _).mono ?_
    rintro e w6 ⟨rfl, k6⟩
    have BG := bstep BF k6
    clear BF k6
    have BF := BG
    go_wp2_with fail
    refine (eknown_any _).mono ?_
    rintro e w7 ⟨rfl, k7⟩
    go_wp2_with fail
    go_ret
    exact ⟨rfl, bstep BF k7⟩

set_option maxHeartbeats 8000000 in
theorem evalCats_walk (a b : ByteArray) (ha : a.size ≤ maxLen) (hb : b.size ≤ maxLen) (w : World) :
    Calls Tryz.prog 4 #[.string a, .string b] w fun e w' => e = .returned (.bool true) ∧ Below w.heap.size w w' := by
  by_cases h : a.size + b.size ≤ 100 ∧ (texV a).okB 2 = true ∧ (texV b).okB 2 = true
  · exact evalCats_in a b w h.1 h.2.1 h.2.2
  have F0 := (six_new w 3 false 0 0 a none 0 0).below (below1 _ (Obj.cells #[.int .i64 3, .bool false, .int .i64 0, .int .i64 0, .string b, .slice none 0 0] 26))
  have F1 := six_new (w.alloc (Obj.cells #[.int .i64 3, .bool false, .int .i64 0, .int .i64 0, .string a, .slice none 0 0] 26)) 3 false 0 0 b none 0 0
  have b0 := below2 w (Obj.cells #[.int .i64 3, .bool false, .int .i64 0, .int .i64 0, .string a, .slice none 0 0] 26) (Obj.cells #[.int .i64 3, .bool false, .int .i64 0, .int .i64 0, .string b, .slice none 0 0] 26)
  rw [show (w.alloc (Obj.cells #[.int .i64 3, .bool false, .int .i64 0, .int .i64 0, .string a, .slice none 0 0] 26)).heap.size = w.heap.size + 1 by simp] at F1
  have IA := hide (fun w => rIs_any (texV a) w (caT_in ha w))
  have IB := hide (fun w => rIs_any (texV b) w (caT_in hb w))
  have la := ha
  have lb := hb
  unfold maxLen at la lb
  clear ha hb
  by_cases hs : a.size + b.size ≤ 100
  · have g1 : (a.size : Int) + (b.size : Int) ≤ 100 := by omega
    have g2 : ¬ 100 < (a.size : Int) + (b.size : Int) := by omega
    cases hok : (texV a).okB 2
    · rw [hok] at IA
      clear h hs hok
      go_enter Tryz.func4, Tryz.ntmps4
      go_wp2_with fail
      refine (unhide IA _).mono ?_
      rintro e w1 ⟨rfl, k1⟩
      go_wp2_with fail
      go_ret
      exact ⟨rfl, bstep b0 k1⟩
    have hok2 : (texV b).okB 2 = false := by
      cases h2 : (texV b).okB 2
      · rfl
      · exact absurd ⟨hs, hok, h2⟩ h
    rw [hok] at IA
    rw [hok2] at IB
    clear h hs hok hok2
    go_enter Tryz.func4, Tryz.ntmps4
    go_wp2_with fail
    refine (unhide IA _).mono ?_
    rintro e w1 ⟨rfl, k1⟩
    have b1 := bstep b0 k1
    have G0 := F0.below k1
    have G1 := F1.below k1
    clear k1 b0 F0 F1 IA
    obtain ⟨u0, u1, u2, u3, u4, u5, u6⟩ := id G0
    obtain ⟨v0, v1, v2, v3, v4, v5, v6⟩ := id G1
    simp only [Nat.zero_add] at u1 u2 u3 u4 u5 u6 v1 v2 v3 v4 v5 v6
    go_wp2_with fail
    refine (unhide IB _).mono ?_
    rintro e w2 ⟨rfl, k2⟩
    go_wp2_with fail
    go_ret
    exact ⟨rfl, bstep b1 k2⟩
  · by_cases g2 : 100 < wrap64 ((a.size : Int) + (b.size : Int))
    · clear h hs IA IB la lb
      go_enter Tryz.func4, Tryz.ntmps4
      go_wp2_with fail
      go_ret
      exact ⟨rfl, b0⟩
    cases hok : (texV a).okB 2
    · rw [hok] at IA
      clear h hs hok la lb
      go_enter Tryz.func4, Tryz.ntmps4
      go_wp2_with fail
      refine (unhide IA _).mono ?_
      rintro e w1 ⟨rfl, k1⟩
      go_wp2_with fail
      go_ret
      exact ⟨rfl, bstep b0 k1⟩
    have hok2 : (texV b).okB 2 = false := by
      cases h2 : (texV b).okB 2
      · rfl
      · have t1 := hok
        have t2 := h2
        rw [tex_ok'] at t1 t2
        unfold textB at t1 t2
        simp only [Bool.and_eq_true, decide_eq_true_eq] at t1 t2
        exact absurd (show a.size + b.size ≤ 100 by have := t1.1; have := t2.1; omega) hs
    rw [hok] at IA
    rw [hok2] at IB
    clear h hs hok hok2 la lb
    go_enter Tryz.func4, Tryz.ntmps4
    go_wp2_with fail
    refine (unhide IA _).mono ?_
    rintro e w1 ⟨rfl, k1⟩
    have b1 := bstep b0 k1
    have G0 := F0.below k1
    have G1 := F1.below k1
    clear k1 b0 F0 F1 IA
    obtain ⟨u0, u1, u2, u3, u4, u5, u6⟩ := id G0
    obtain ⟨v0, v1, v2, v3, v4, v5, v6⟩ := id G1
    simp only [Nat.zero_add] at u1 u2 u3 u4 u5 u6 v1 v2 v3 v4 v5 v6
    go_wp2_with fail
    refine (unhide IB _).mono ?_
    rintro e w2 ⟨rfl, k2⟩
    go_wp2_with fail
    go_ret
    exact ⟨rfl, bstep b1 k2⟩
end Go.Proofs.YtheoalmnbkjpjabGreat

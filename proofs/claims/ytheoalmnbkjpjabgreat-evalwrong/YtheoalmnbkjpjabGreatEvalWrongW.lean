/- The walk of EvalWrong: what does not fit together is nothing, and no error. (Printed by mkwrong.py.) -/
import Derived.Test.YtheoalmnbkjpjabGreatHBC
import Derived.Test.YtheoalmnbkjpjabGreatHAC
import Derived.Test.YtheoalmnbkjpjabGreatHAF
import Derived.Test.YtheoalmnbkjpjabGreatHAB
namespace Go.Proofs.YtheoalmnbkjpjabGreat
open Go.RowKit
open VT (leaf mkV)
set_option linter.unusedVariables false
set_option linter.unusedSimpArgs false
attribute [local go_sem ↓] Go.wp_at_zero Go.wp_at_succ

def wrT : List (List UInt8) := [[118, 32, 43, 32, 116, 114, 117, 101], [118, 32, 42, 32, 110, 117, 108, 108], [118, 32, 60, 32, 110, 117, 108, 108], [45, 118], [97, 98, 115, 40, 118, 44, 32, 118, 41], [109, 111, 100, 40, 118, 41], [108, 101, 110, 40, 118, 41], [99, 111, 117, 110, 116, 40, 118, 41], [102, 111, 111, 40, 118, 41], [104, 97, 115, 40, 118, 44, 32, 118, 41], [49, 32, 47, 32, 48], [99, 97, 116, 40, 41], [109, 105, 110, 40, 41]]
def wrX (k : Nat) : List UInt8 := wrT.getD k []
def wrB (k : Nat) (V : VT) : Bool := decide ((parseT (wrX k)).2.2 = 0) && (smaX (parseT (wrX k)).1 && (decide (kdV (evT [([118], V)] (parseT (wrX k)).1).1 = 0) && (decide ((evT [([118], V)] (parseT (wrX k)).1).2 = 0) && decide ((wrX k).length ≤ 1000))))
theorem wr_calc0 : ∀ k, k < 13 → wrB k nilV = true := by decide +kernel
theorem wr_calc1 : ∀ k, k < 13 → wrB k (booV false) = true := by decide +kernel
theorem wr_calc2 : ∀ k, k < 13 → wrB k (booV true) = true := by decide +kernel
theorem wr_bare (k : Int) (b : Bool) (m s : Int) (t : ByteArray) (a : Option Addr) (len cap : Nat) (kid : Nat → VT) (h : (VT.mk k b m s t a len cap kid).okB 2 = true) (h2 : k ≠ 2) (h3 : k ≠ 3) (h4 : k ≠ 4) :
    ∀ i, i < 13 → wrB i (VT.mk k b m s t a len cap kid).bare = true := by
  have hal : aloneB k b m s t len = true := by
    cases hal : aloneB k b m s t len
    · rw [okB_no _ hal] at h; cases h
    · rfl
  rw [okB_yes _ hal] at h
  obtain ⟨a1, a2, a3, a4⟩ := alone_t hal
  obtain ⟨rfl, rfl⟩ := a2 h2
  obtain rfl := a4 h4
  have ht : t = ⟨#[]⟩ := by
    have e : t.data.toList = [] := by rw [← ByteArray.toList_eq]; exact a3 h3
    apply ByteArray.ext
    simpa using e
  subst ht
  rw [VT.bare_leaf]
  by_cases h0 : k = 0
  · subst h0
    obtain rfl := a1 (by decide)
    exact wr_calc0
  by_cases h1 : k = 1
  · subst h1
    cases b
    · exact wr_calc1
    · exact wr_calc2
  · rw [if_neg (by omega), if_neg h2, if_neg h3, if_neg h4] at h
    cases h

set_option maxHeartbeats 8000000 in
set_option maxRecDepth 10000 in
theorem evalWrong_out (k : Int) (b : Bool) (m s : Int) (t : ByteArray) (ac : Option Addr) (lc cc : Nat) (kid : Nat → VT) (n : Int) (w : World) (hc : (VT.mk k b m s t ac lc cc kid).In w) (h : 20 < lc ∨ (VT.mk k b m s t ac lc cc kid).okB 2 = false ∨ n < 0 ∨ 13 ≤ n ∨ k = 2 ∨ k = 3 ∨ k = 4) :
    Calls Tryz.prog 5 #[.agg #[.int .i64 k, .bool b, .int .i64 m, .int .i64 s, .string t, .slice ac lc cc], .int .i64 n] w fun e w' => e = .returned (.bool true) ∧ Below w.heap.size w w' := by
  have b0 := below2 w (Obj.cells #[.int .i64 k, .bool b, .int .i64 m, .int .i64 s, .string t, .slice ac lc cc] 26) (Obj.cells #[.string ⟨#[118, 32, 43, 32, 116, 114, 117, 101]⟩, .string ⟨#[118, 32, 42, 32, 110, 117, 108, 108]⟩, .string ⟨#[118, 32, 60, 32, 110, 117, 108, 108]⟩, .string ⟨#[45, 118]⟩, .string ⟨#[97, 98, 115, 40, 118, 44, 32, 118, 41]⟩, .string ⟨#[109, 111, 100, 40, 118, 41]⟩, .string ⟨#[108, 101, 110, 40, 118, 41]⟩, .string ⟨#[99, 111, 117, 110, 116, 40, 118, 41]⟩, .string ⟨#[102, 111, 111, 40, 118, 41]⟩, .string ⟨#[104, 97, 115, 40, 118, 44, 32, 118, 41]⟩, .string ⟨#[49, 32, 47, 32, 48]⟩, .string ⟨#[99, 97, 116, 40, 41]⟩, .string ⟨#[109, 105, 110, 40, 41]⟩] 9)
  have X0 := (six_new w k b m s t ac lc cc).below (below1 _ (Obj.cells #[.string ⟨#[118, 32, 43, 32, 116, 114, 117, 101]⟩, .string ⟨#[118, 32, 42, 32, 110, 117, 108, 108]⟩, .string ⟨#[118, 32, 60, 32, 110, 117, 108, 108]⟩, .string ⟨#[45, 118]⟩, .string ⟨#[97, 98, 115, 40, 118, 44, 32, 118, 41]⟩, .string ⟨#[109, 111, 100, 40, 118, 41]⟩, .string ⟨#[108, 101, 110, 40, 118, 41]⟩, .string ⟨#[99, 111, 117, 110, 116, 40, 118, 41]⟩, .string ⟨#[102, 111, 111, 40, 118, 41]⟩, .string ⟨#[104, 97, 115, 40, 118, 44, 32, 118, 41]⟩, .string ⟨#[49, 32, 47, 32, 48]⟩, .string ⟨#[99, 97, 116, 40, 41]⟩, .string ⟨#[109, 105, 110, 40, 41]⟩] 9))
  have IS := hide (fun w h => rIs_any (VT.mk k b m s t ac lc cc kid) w h)
  have C0 := hide (hc.below b0)
  obtain ⟨x0, x1, x2, x3, x4, x5, x6⟩ := id X0
  simp only [Nat.zero_add] at x1 x2 x3 x4 x5 x6
  clear hc
  go_enter Tryz.func5, Tryz.ntmps5
  by_cases hl : 20 < (lc : Int)
  · go_wp2_with fail
    go_ret
    exact ⟨rfl, b0⟩
  have h := h.resolve_left (by omega)
  cases hok : (VT.mk k b m s t ac lc cc kid).okB 2
  · rw [hok] at IS
    clear h hok
    go_wp2_with fail
    refine (unhide IS _ (unhide C0)).mono ?_
    rintro e w1 ⟨rfl, k1⟩
    go_wp2_with fail
    go_ret
    exact ⟨rfl, bstep b0 k1⟩
  rw [hok] at IS h
  have h := h.resolve_left (by simp)
  clear hok
  go_wp2_with fail
  refine (unhide IS _ (unhide C0)).mono ?_
  rintro e w1 ⟨rfl, k1⟩
  have B1 := bstep b0 k1
  have X1 := X0.below k1
  clear X0 x0 x1 x2 x3 x4 x5 x6 k1 b0
  obtain ⟨x0, x1, x2, x3, x4, x5, x6⟩ := id X1
  simp only [Nat.zero_add] at x1 x2 x3 x4 x5 x6
  by_cases h0 : n < 0
  · clear h
    go_wp2_with fail
    go_ret
    exact ⟨rfl, B1⟩
  have h := h.resolve_left h0
  by_cases h1 : 13 ≤ n
  · clear h
    go_wp2_with fail
    go_ret
    exact ⟨rfl, B1⟩
  have h := h.resolve_left h1
  rcases h with rfl | rfl | rfl
  all_goals
    go_wp2_with fail
    go_ret
    exact ⟨rfl, B1⟩

set_option maxHeartbeats 8000000 in
set_option maxRecDepth 10000 in
theorem evalWrong_in (k : Int) (b : Bool) (m s : Int) (t : ByteArray) (ac : Option Addr) (lc cc : Nat) (kid : Nat → VT) (n : Nat) (w : World) (hc : (VT.mk k b m s t ac lc cc kid).In w) (hl : ¬ 20 < lc) (hok : (VT.mk k b m s t ac lc cc kid).okB 2 = true) (hn : n < 13) (h2 : k ≠ 2) (h3 : k ≠ 3) (h4 : k ≠ 4) :
    Calls Tryz.prog 5 #[.agg #[.int .i64 k, .bool b, .int .i64 m, .int .i64 s, .string t, .slice ac lc cc], .int .i64 (n : Int)] w fun e w' => e = .returned (.bool true) ∧ Below w.heap.size w w' := by
  have b0 := below2 w (Obj.cells #[.int .i64 k, .bool b, .int .i64 m, .int .i64 s, .string t, .slice ac lc cc] 26) (Obj.cells #[.string ⟨#[118, 32, 43, 32, 116, 114, 117, 101]⟩, .string ⟨#[118, 32, 42, 32, 110, 117, 108, 108]⟩, .string ⟨#[118, 32, 60, 32, 110, 117, 108, 108]⟩, .string ⟨#[45, 118]⟩, .string ⟨#[97, 98, 115, 40, 118, 44, 32, 118, 41]⟩, .string ⟨#[109, 111, 100, 40, 118, 41]⟩, .string ⟨#[108, 101, 110, 40, 118, 41]⟩, .string ⟨#[99, 111, 117, 110, 116, 40, 118, 41]⟩, .string ⟨#[102, 111, 111, 40, 118, 41]⟩, .string ⟨#[104, 97, 115, 40, 118, 44, 32, 118, 41]⟩, .string ⟨#[49, 32, 47, 32, 48]⟩, .string ⟨#[99, 97, 116, 40, 41]⟩, .string ⟨#[109, 105, 110, 40, 41]⟩] 9)
  have X0 := (six_new w k b m s t ac lc cc).below (below1 _ (Obj.cells #[.string ⟨#[118, 32, 43, 32, 116, 114, 117, 101]⟩, .string ⟨#[118, 32, 42, 32, 110, 117, 108, 108]⟩, .string ⟨#[118, 32, 60, 32, 110, 117, 108, 108]⟩, .string ⟨#[45, 118]⟩, .string ⟨#[97, 98, 115, 40, 118, 44, 32, 118, 41]⟩, .string ⟨#[109, 111, 100, 40, 118, 41]⟩, .string ⟨#[108, 101, 110, 40, 118, 41]⟩, .string ⟨#[99, 111, 117, 110, 116, 40, 118, 41]⟩, .string ⟨#[102, 111, 111, 40, 118, 41]⟩, .string ⟨#[104, 97, 115, 40, 118, 44, 32, 118, 41]⟩, .string ⟨#[49, 32, 47, 32, 48]⟩, .string ⟨#[99, 97, 116, 40, 41]⟩, .string ⟨#[109, 105, 110, 40, 41]⟩] 9))
  have IS := hide (fun w h => rIs_any (VT.mk k b m s t ac lc cc kid) w h)
  have C0 := hide (hc.below b0)
  rw [hok] at IS
  have hl' : ¬ 20 < (lc : Int) := by omega
  have hn1 : (0 : Int) ≤ (n : Int) := by omega
  have hn2 : (n : Int) < 13 := by omega
  have hn3 : ¬ (n : Int) < 0 := by omega
  have hn4 : ¬ 13 ≤ (n : Int) := by omega
  have hk2 : (k == 2) = false := by simpa using h2
  have hk3 : (k == 3) = false := by simpa using h3
  have hk4 : (k == 4) = false := by simpa using h4
  have WB := wr_bare k b m s t ac lc cc kid hok h2 h3 h4 n hn
  unfold wrB at WB
  simp only [Bool.and_eq_true, decide_eq_true_eq] at WB
  obtain ⟨g1, g2, g3, g4, g5⟩ := WB
  have TD := hide (fun a9 w h => told_any (wrX n) g5 (parseT (wrX n)).1 (parseT (wrX n)).2.1 (by rw [← g1]) g2 [(⟨#[118]⟩, VT.mk k b m s t ac lc cc kid)] a9 1 w h (by unfold maxLen; simp) (fun e he => by
      rcases List.mem_cons.1 he with h | h
      · rw [h]; exact hok
      · cases h))
  have eE : envT [(⟨#[118]⟩, VT.mk k b m s t ac lc cc kid)] = [([118], (VT.mk k b m s t ac lc cc kid).bare)] := rfl
  rw [eE] at TD
  have l0 : (((w.alloc (Obj.cells #[.int .i64 k, .bool b, .int .i64 m, .int .i64 s, .string t, .slice ac lc cc] 26)).alloc (Obj.cells #[.string ⟨#[118, 32, 43, 32, 116, 114, 117, 101]⟩, .string ⟨#[118, 32, 42, 32, 110, 117, 108, 108]⟩, .string ⟨#[118, 32, 60, 32, 110, 117, 108, 108]⟩, .string ⟨#[45, 118]⟩, .string ⟨#[97, 98, 115, 40, 118, 44, 32, 118, 41]⟩, .string ⟨#[109, 111, 100, 40, 118, 41]⟩, .string ⟨#[108, 101, 110, 40, 118, 41]⟩, .string ⟨#[99, 111, 117, 110, 116, 40, 118, 41]⟩, .string ⟨#[102, 111, 111, 40, 118, 41]⟩, .string ⟨#[104, 97, 115, 40, 118, 44, 32, 118, 41]⟩, .string ⟨#[49, 32, 47, 32, 48]⟩, .string ⟨#[99, 97, 116, 40, 41]⟩, .string ⟨#[109, 105, 110, 40, 41]⟩] 9))).cell? ⟨w.heap.size + 1, n, none⟩ = some (.string ⟨(wrX n).toArray⟩) := by
    have : ∀ n, n < 13 → (((w.alloc (Obj.cells #[.int .i64 k, .bool b, .int .i64 m, .int .i64 s, .string t, .slice ac lc cc] 26)).alloc (Obj.cells #[.string ⟨#[118, 32, 43, 32, 116, 114, 117, 101]⟩, .string ⟨#[118, 32, 42, 32, 110, 117, 108, 108]⟩, .string ⟨#[118, 32, 60, 32, 110, 117, 108, 108]⟩, .string ⟨#[45, 118]⟩, .string ⟨#[97, 98, 115, 40, 118, 44, 32, 118, 41]⟩, .string ⟨#[109, 111, 100, 40, 118, 41]⟩, .string ⟨#[108, 101, 110, 40, 118, 41]⟩, .string ⟨#[99, 111, 117, 110, 116, 40, 118, 41]⟩, .string ⟨#[102, 111, 111, 40, 118, 41]⟩, .string ⟨#[104, 97, 115, 40, 118, 44, 32, 118, 41]⟩, .string ⟨#[49, 32, 47, 32, 48]⟩, .string ⟨#[99, 97, 116, 40, 41]⟩, .string ⟨#[109, 105, 110, 40, 41]⟩] 9))).cell? ⟨w.heap.size + 1, n, none⟩ = some (.string ⟨(wrX n).toArray⟩) := by
      intro n hn
      match n, hn with
      | 0, _ => go_simp; rfl
      | 1, _ => go_simp; rfl
      | 2, _ => go_simp; rfl
      | 3, _ => go_simp; rfl
      | 4, _ => go_simp; rfl
      | 5, _ => go_simp; rfl
      | 6, _ => go_simp; rfl
      | 7, _ => go_simp; rfl
      | 8, _ => go_simp; rfl
      | 9, _ => go_simp; rfl
      | 10, _ => go_simp; rfl
      | 11, _ => go_simp; rfl
      | 12, _ => go_simp; rfl
    exact this n hn
  generalize hR : evT [([118], (VT.mk k b m s t ac lc cc kid).bare)] (parseT (wrX n)).1 = R at *
  obtain ⟨RX, RE⟩ := R
  dsimp only at g3 g4
  subst g4
  have H3 := hide g3
  obtain ⟨x0, x1, x2, x3, x4, x5, x6⟩ := id X0
  simp only [Nat.zero_add] at x1 x2 x3 x4 x5 x6
  clear hc hok hR g1 g2 g3 g5 eE h2 h3 h4 hl
  go_enter Tryz.func5, Tryz.ntmps5
  go_wp2_with fail
  refine (unhide IS _ (unhide C0)).mono ?_
  rintro e w1 ⟨rfl, k1⟩
  have B1 := bstep b0 k1
  have X1 := X0.below k1
  have C1 := hide ((unhide C0).below k1)
  have l1 := kcell k1 (by simp) l0
  have z1 : w.heap.size + 2 ≤ w1.heap.size := by have := k1.size; simpa using this
  clear X0 x0 x1 x2 x3 x4 x5 x6 k1 b0 l0 C0 IS
  obtain ⟨x0, x1, x2, x3, x4, x5, x6⟩ := id X1
  simp only [Nat.zero_add] at x1 x2 x3 x4 x5 x6
  clear X1
  go_wp2_with fail

  have CI := C1
  have SK : Hid (∀ w', Below w1.heap.size w1 w' → (Below w1.heap.size w1 w' ∧ w'.cell? ⟨w.heap.size, 0, none⟩ = some (.int .i64 k) ∧ w'.cell? ⟨w.heap.size, 1, none⟩ = some (.bool b) ∧ w'.cell? ⟨w.heap.size, 2, none⟩ = some (.int .i64 m) ∧ w'.cell? ⟨w.heap.size, 3, none⟩ = some (.int .i64 s) ∧ w'.cell? ⟨w.heap.size, 4, none⟩ = some (.string t) ∧ w'.cell? ⟨w.heap.size, 5, none⟩ = some (.slice ac lc cc) ∧ w'.cell? ⟨(w.heap.size + 1), n, none⟩ = some (.string ⟨(wrX n).toArray⟩))) := hide (fun w' kk => ⟨kk, kcell kk (World.block_lt_of_cell? _ _ x1) x1, kcell kk (World.block_lt_of_cell? _ _ x2) x2, kcell kk (World.block_lt_of_cell? _ _ x3) x3, kcell kk (World.block_lt_of_cell? _ _ x4) x4, kcell kk (World.block_lt_of_cell? _ _ x5) x5, kcell kk (World.block_lt_of_cell? _ _ x6) x6, kcell kk (World.block_lt_of_cell? _ _ l1) l1⟩)
  refine wp_region_noPanic ?_
  refine wp_region_held_drew (S := fun w' => Below w1.heap.size w1 w' ∧ w'.cell? ⟨w.heap.size, 0, none⟩ = some (.int .i64 k) ∧ w'.cell? ⟨w.heap.size, 1, none⟩ = some (.bool b) ∧ w'.cell? ⟨w.heap.size, 2, none⟩ = some (.int .i64 m) ∧ w'.cell? ⟨w.heap.size, 3, none⟩ = some (.int .i64 s) ∧ w'.cell? ⟨w.heap.size, 4, none⟩ = some (.string t) ∧ w'.cell? ⟨w.heap.size, 5, none⟩ = some (.slice ac lc cc) ∧ w'.cell? ⟨(w.heap.size + 1), n, none⟩ = some (.string ⟨(wrX n).toArray⟩)) (by kernel_rfl) ?hS0a (fun hHeld => ?_)
  case hS0a => exact unhide SK _ (Below.refl _ _).drew
  have jda : Below w1.heap.size w1 w1.drew := (Below.refl _ _).drew
  have CI0a := hide ((unhide CI).below jda)
  clear jda
  generalize w1.drew = u0a at *
  refine takeAt 0 (some 44) ?va0x0 ⟨_, rfl, rfl, rfl, ?hya0x0⟩ (by kernel_rfl) (by kernel_rfl) (by kernel_rfl) (fun _ _ _ h => h) (by assumption) ?_
  case hya0x0 => (intro w0 hSw; (try dsimp only at hSw); go_simp; try (with_reducible rfl))
  simp only [Act.put, List.setIfInBounds_toArray, List.set_cons_zero, List.set_cons_succ]
  refine takeAt 1 (some 45) ?va1x0 ⟨_, rfl, rfl, rfl, ?hya1x0⟩ (by kernel_rfl) (by kernel_rfl) (by kernel_rfl) (fun _ _ _ h => h) (by assumption) ?_
  case hya1x0 => (intro w0 hSw; (try dsimp only at hSw); go_simp; try (with_reducible rfl))
  simp only [Act.put, List.setIfInBounds_toArray, List.set_cons_zero, List.set_cons_succ]
  refine takeAt 2 (some 46) ?va2x0 ⟨_, rfl, rfl, rfl, ?hya2x0⟩ (by kernel_rfl) (by kernel_rfl) (by kernel_rfl) (fun _ _ _ h => h) (by assumption) ?_
  case hya2x0 => (intro w0 hSw; (try dsimp only at hSw); go_simp; try (with_reducible rfl))
  simp only [Act.put, List.setIfInBounds_toArray, List.set_cons_zero, List.set_cons_succ]
  refine takeAt 3 (some 47) ?va3x0 ⟨_, rfl, rfl, rfl, ?hya3x0⟩ (by kernel_rfl) (by kernel_rfl) (by kernel_rfl) (fun _ _ _ h => h) (by assumption) ?_
  case hya3x0 => (intro w0 hSw; (try dsimp only at hSw); go_simp; try (with_reducible rfl))
  simp only [Act.put, List.setIfInBounds_toArray, List.set_cons_zero, List.set_cons_succ]
  refine takeAt 4 (some 48) ?va4x0 ⟨_, rfl, rfl, rfl, ?hya4x0⟩ (by kernel_rfl) (by kernel_rfl) (by kernel_rfl) (fun _ _ _ h => h) (by assumption) ?_
  case hya4x0 => (intro w0 hSw; (try dsimp only at hSw); go_simp; try (with_reducible rfl))
  simp only [Act.put, List.setIfInBounds_toArray, List.set_cons_zero, List.set_cons_succ]
  refine takeAt 5 (some 49) ?va5x0 ⟨_, rfl, rfl, rfl, ?hya5x0⟩ (by kernel_rfl) (by kernel_rfl) (by kernel_rfl) (fun _ _ _ h => h) (by assumption) ?_
  case hya5x0 => (intro w0 hSw; (try dsimp only at hSw); go_simp; try (with_reducible rfl))
  simp only [Act.put, List.setIfInBounds_toArray, List.set_cons_zero, List.set_cons_succ]
  refine wpAnyH_ready (rs := [6, 11]) (by kernel_rfl) (by simp) ?_
  refine AllReadyH.cons rfl (fun K0 hK0 => ?_) (AllReadyH.cons rfl (fun K0 hK0 => ?_) AllReadyH.nil)
  · skip
    go_simp
    refine hK0.out _ _ ?hS1a (fun hHeld1 => ?_)
    case hS1a => exact unhide SK _ (keep_alloc hHeld _)
    clear hK0 K0
    have j1a := below1 u0a (Obj.cells #[.string ⟨#[118]⟩, .int .i64 k, .bool b, .int .i64 m, .int .i64 s, .string t, .slice ac lc cc] 28)
    have z1a : w1.heap.size ≤ u0a.heap.size := hHeld.1.size
    have CI1a := hide ((unhide CI0a).below j1a)
    have EN1a := hide (env1 (w := u0a.alloc (Obj.cells #[.string ⟨#[118]⟩, .int .i64 k, .bool b, .int .i64 m, .int .i64 s, .string t, .slice ac lc cc] 28)) (g := u0a.heap.size) ⟨#[118]⟩ _ (unhide CI1a) (by go_simp) (fun j hj => by match j, hj with | 0, _ => (go_simp; rfl) | 1, _ => (go_simp; rfl) | 2, _ => (go_simp; rfl) | 3, _ => (go_simp; rfl) | 4, _ => (go_simp; rfl) | 5, _ => (go_simp; rfl)))
    generalize u0a.alloc (Obj.cells #[.string ⟨#[118]⟩, .int .i64 k, .bool b, .int .i64 m, .int .i64 s, .string t, .slice ac lc cc] 28) = u1a at *
    generalize u0a.heap.size = g1a at *
    clear j1a
    clear hHeld CI0a
    have hHeld := hHeld1
    clear hHeld1
    try simp only [Act.put, List.setIfInBounds_toArray, List.set_cons_zero, List.set_cons_succ]
    refine wpAnyH_ready (rs := [7, 11]) (by kernel_rfl) (by simp) ?_
    refine AllReadyH.cons rfl (fun K0 hK0 => ?_) (AllReadyH.cons rfl (fun K0 hK0 => ?_) AllReadyH.nil)
    · skip
      go_simp
      refine (unhide TD _ _ (unhide EN1a)).mono ?_
      rintro e u2a ⟨⟨v, rfl, T, rfl, hT, hTl, hTb⟩, j2a⟩
      obtain ⟨kz, bz, mz, sz, tz, az, lz, cz, kidz, rfl⟩ := hT.form
      have hk : kz = 0 := (congrArg kdV hTb).trans (unhide H3)
      subst hk
      clear hT hTl hTb
      dsimp only [VT.val]
      go_wp2_with fail
      refine hK0.out _ _ ?hS2a (fun hHeld1 => ?_)
      case hS2a => exact unhide SK _ (keep_call hHeld j2a)
      clear hK0 K0
      have CI2a := hide ((unhide CI1a).below j2a)
      have EN2a := hide ((unhide EN1a).below j2a)
      clear j2a
      clear hHeld CI1a EN1a
      have hHeld := hHeld1
      clear hHeld1
      try simp only [Act.put, List.setIfInBounds_toArray, List.set_cons_zero, List.set_cons_succ]
      refine takeAt 8 (some 43) ?va8x2 ⟨_, rfl, rfl, rfl, ?hya8x2⟩ (by kernel_rfl) (by kernel_rfl) (by kernel_rfl) (fun _ _ _ h => h) (by assumption) ?_
      case hya8x2 => (intro w0 hSw; (try dsimp only at hSw); go_simp; try (with_reducible rfl))
      simp only [Act.put, List.setIfInBounds_toArray, List.set_cons_zero, List.set_cons_succ]
      refine takeAt 9 (some 52) ?va9x2 ⟨_, rfl, rfl, rfl, ?hya9x2⟩ (by kernel_rfl) (by kernel_rfl) (by kernel_rfl) (fun _ _ _ h => h) (by assumption) ?_
      case hya9x2 => (intro w0 hSw; (try dsimp only at hSw); go_simp; try (with_reducible rfl))
      simp only [Act.put, List.setIfInBounds_toArray, List.set_cons_zero, List.set_cons_succ]
      refine takeAt 10 (some 53) ?va10x2 ⟨_, rfl, rfl, rfl, ?hya10x2⟩ (by kernel_rfl) (by kernel_rfl) (by kernel_rfl) (fun _ _ _ h => h) (by assumption) ?_
      case hya10x2 => (intro w0 hSw; (try dsimp only at hSw); go_simp; try (with_reducible rfl))
      simp only [Act.put, List.setIfInBounds_toArray, List.set_cons_zero, List.set_cons_succ]
      refine wpAnyH_ready (rs := [11]) (by kernel_rfl) (by simp) ?_
      refine AllReadyH.cons rfl (fun K0 hK0 => ?_) AllReadyH.nil
      · skip
        go_simp
        refine hK0.out _ _ ?hS3a (fun hHeld1 => ?_)
        case hS3a => exact unhide SK _ (keep_alloc hHeld _)
        clear hK0 K0
        have j3a := below1 u2a (Obj.cells #[.int .i64 0, .bool false, .int .i64 0, .int .i64 0, .string ⟨#[]⟩, .slice none 0 0] 26)
        have z3a : w1.heap.size ≤ u2a.heap.size := hHeld.1.size
        have CI3a := hide ((unhide CI2a).below j3a)
        have EN3a := hide ((unhide EN2a).below j3a)
        have o3ba := Own.new u2a 26
        generalize u2a.alloc (Obj.cells #[.int .i64 0, .bool false, .int .i64 0, .int .i64 0, .string ⟨#[]⟩, .slice none 0 0] 26) = u3a at *
        generalize u2a.heap.size = g3a at *
        clear j3a
        clear hHeld CI2a EN2a
        have hHeld := hHeld1
        clear hHeld1
        try simp only [Act.put, List.setIfInBounds_toArray, List.set_cons_zero, List.set_cons_succ]
        refine wpAnyH_ready (rs := [12]) (by kernel_rfl) (by simp) ?_
        refine AllReadyH.cons rfl (fun K0 hK0 => ?_) AllReadyH.nil
        · skip
          obtain ⟨⟨-, e0, e1, e2, e3, e4, e5⟩, f0, f1, f2, f3, f4, f5⟩ := id o3ba
          simp only [Nat.zero_add] at e0 e1 e2 e3 e4 e5
          go_simp
          clear e0 e1 e2 e3 e4 e5 f0 f1 f2 f3 f4 f5
          refine hK0.out _ _ ?hS4a (fun hHeld1 => ?_)
          case hS4a => exact unhide SK _ (set6 hHeld.1 (by omega) _ _ _ _ _ _)
          clear hK0 K0
          have s4ba := Own.put o3ba 0 bz mz sz tz az lz cz
          generalize ((((((u3a.setCell ⟨g3a, 0, none⟩ (.int .i64 0)).setCell ⟨g3a, 1, none⟩ (.bool bz)).setCell ⟨g3a, 2, none⟩ (.int .i64 mz)).setCell ⟨g3a, 3, none⟩ (.int .i64 sz)).setCell ⟨g3a, 4, none⟩ (.string tz)).setCell ⟨g3a, 5, none⟩ (.slice az lz cz)) = u4a at *
          clear hHeld o3ba CI3a EN3a
          have hHeld := hHeld1
          clear hHeld1
          try simp only [Act.put, List.setIfInBounds_toArray, List.set_cons_zero, List.set_cons_succ]
          refine takeAt 13 (some 7) ?va13x4 ⟨_, rfl, rfl, rfl, ?hya13x4⟩ (by kernel_rfl) (by kernel_rfl) (by kernel_rfl) (fun _ _ _ h => h) (by assumption) ?_
          case hya13x4 => (intro w0 hSw; (try dsimp only at hSw); go_simp; try (with_reducible rfl))
          simp only [Act.put, List.setIfInBounds_toArray, List.set_cons_zero, List.set_cons_succ]
          refine wpAnyH_done (by kernel_rfl) ?_ _
          refine NoPanic.normal ?_
          obtain ⟨y0, y1, y2, y3, y4, y5, y6⟩ := s4ba
          simp only [Nat.zero_add] at y1 y2 y3 y4 y5 y6
          have BZ := hHeld.1
          clear hHeld
          go_wp2_with fail
          refine (eknown_any _).mono ?_
          rintro e w5 ⟨rfl, k5⟩
          go_wp2_with fail
          go_ret
          exact ⟨rfl, bstep (bstep B1 BZ) k5⟩
    · skip
      go_simp
      refine hK0.out _ _ ?hS5a (fun hHeld1 => ?_)
      case hS5a => exact unhide SK _ (keep_alloc hHeld _)
      clear hK0 K0
      have j5a := below1 u1a (Obj.cells #[.int .i64 0, .bool false, .int .i64 0, .int .i64 0, .string ⟨#[]⟩, .slice none 0 0] 26)
      have z5a : w1.heap.size ≤ u1a.heap.size := hHeld.1.size
      have CI5a := hide ((unhide CI1a).below j5a)
      have EN5a := hide ((unhide EN1a).below j5a)
      have o5ba := Own.new u1a 26
      generalize u1a.alloc (Obj.cells #[.int .i64 0, .bool false, .int .i64 0, .int .i64 0, .string ⟨#[]⟩, .slice none 0 0] 26) = u5a at *
      generalize u1a.heap.size = g5a at *
      clear j5a
      clear hHeld CI1a EN1a
      have hHeld := hHeld1
      clear hHeld1
      try simp only [Act.put, List.setIfInBounds_toArray, List.set_cons_zero, List.set_cons_succ]
      refine wpAnyH_ready (rs := [7]) (by kernel_rfl) (by simp) ?_
      refine AllReadyH.cons rfl (fun K0 hK0 => ?_) AllReadyH.nil
      · skip
        go_simp
        refine (unhide TD _ _ (unhide EN5a)).mono ?_
        rintro e u6a ⟨⟨v, rfl, T, rfl, hT, hTl, hTb⟩, j6a⟩
        obtain ⟨kz, bz, mz, sz, tz, az, lz, cz, kidz, rfl⟩ := hT.form
        have hk : kz = 0 := (congrArg kdV hTb).trans (unhide H3)
        subst hk
        clear hT hTl hTb
        dsimp only [VT.val]
        go_wp2_with fail
        refine hK0.out _ _ ?hS6a (fun hHeld1 => ?_)
        case hS6a => exact unhide SK _ (keep_call hHeld j6a)
        clear hK0 K0
        have o6ba := o5ba.below j6a
        have CI6a := hide ((unhide CI5a).below j6a)
        have EN6a := hide ((unhide EN5a).below j6a)
        clear j6a
        clear hHeld o5ba CI5a EN5a
        have hHeld := hHeld1
        clear hHeld1
        try simp only [Act.put, List.setIfInBounds_toArray, List.set_cons_zero, List.set_cons_succ]
        refine takeAt 8 (some 43) ?va8x6 ⟨_, rfl, rfl, rfl, ?hya8x6⟩ (by kernel_rfl) (by kernel_rfl) (by kernel_rfl) (fun _ _ _ h => h) (by assumption) ?_
        case hya8x6 => (intro w0 hSw; (try dsimp only at hSw); go_simp; try (with_reducible rfl))
        simp only [Act.put, List.setIfInBounds_toArray, List.set_cons_zero, List.set_cons_succ]
        refine takeAt 9 (some 52) ?va9x6 ⟨_, rfl, rfl, rfl, ?hya9x6⟩ (by kernel_rfl) (by kernel_rfl) (by kernel_rfl) (fun _ _ _ h => h) (by assumption) ?_
        case hya9x6 => (intro w0 hSw; (try dsimp only at hSw); go_simp; try (with_reducible rfl))
        simp only [Act.put, List.setIfInBounds_toArray, List.set_cons_zero, List.set_cons_succ]
        refine takeAt 10 (some 53) ?va10x6 ⟨_, rfl, rfl, rfl, ?hya10x6⟩ (by kernel_rfl) (by kernel_rfl) (by kernel_rfl) (fun _ _ _ h => h) (by assumption) ?_
        case hya10x6 => (intro w0 hSw; (try dsimp only at hSw); go_simp; try (with_reducible rfl))
        simp only [Act.put, List.setIfInBounds_toArray, List.set_cons_zero, List.set_cons_succ]
        refine wpAnyH_ready (rs := [12]) (by kernel_rfl) (by simp) ?_
        refine AllReadyH.cons rfl (fun K0 hK0 => ?_) AllReadyH.nil
        · skip
          obtain ⟨⟨-, e0, e1, e2, e3, e4, e5⟩, f0, f1, f2, f3, f4, f5⟩ := id o6ba
          simp only [Nat.zero_add] at e0 e1 e2 e3 e4 e5
          go_simp
          clear e0 e1 e2 e3 e4 e5 f0 f1 f2 f3 f4 f5
          refine hK0.out _ _ ?hS7a (fun hHeld1 => ?_)
          case hS7a => exact unhide SK _ (set6 hHeld.1 (by omega) _ _ _ _ _ _)
          clear hK0 K0
          have s7ba := Own.put o6ba 0 bz mz sz tz az lz cz
          generalize ((((((u6a.setCell ⟨g5a, 0, none⟩ (.int .i64 0)).setCell ⟨g5a, 1, none⟩ (.bool bz)).setCell ⟨g5a, 2, none⟩ (.int .i64 mz)).setCell ⟨g5a, 3, none⟩ (.int .i64 sz)).setCell ⟨g5a, 4, none⟩ (.string tz)).setCell ⟨g5a, 5, none⟩ (.slice az lz cz)) = u7a at *
          clear hHeld o6ba CI6a EN6a
          have hHeld := hHeld1
          clear hHeld1
          try simp only [Act.put, List.setIfInBounds_toArray, List.set_cons_zero, List.set_cons_succ]
          refine takeAt 13 (some 7) ?va13x7 ⟨_, rfl, rfl, rfl, ?hya13x7⟩ (by kernel_rfl) (by kernel_rfl) (by kernel_rfl) (fun _ _ _ h => h) (by assumption) ?_
          case hya13x7 => (intro w0 hSw; (try dsimp only at hSw); go_simp; try (with_reducible rfl))
          simp only [Act.put, List.setIfInBounds_toArray, List.set_cons_zero, List.set_cons_succ]
          refine wpAnyH_done (by kernel_rfl) ?_ _
          refine NoPanic.normal ?_
          obtain ⟨y0, y1, y2, y3, y4, y5, y6⟩ := s7ba
          simp only [Nat.zero_add] at y1 y2 y3 y4 y5 y6
          have BZ := hHeld.1
          clear hHeld
          go_wp2_with fail
          refine (eknown_any _).mono ?_
          rintro e w5 ⟨rfl, k5⟩
          go_wp2_with fail
          go_ret
          exact ⟨rfl, bstep (bstep B1 BZ) k5⟩
  · skip
    go_simp
    refine hK0.out _ _ ?hS8a (fun hHeld1 => ?_)
    case hS8a => exact unhide SK _ (keep_alloc hHeld _)
    clear hK0 K0
    have j8a := below1 u0a (Obj.cells #[.int .i64 0, .bool false, .int .i64 0, .int .i64 0, .string ⟨#[]⟩, .slice none 0 0] 26)
    have z8a : w1.heap.size ≤ u0a.heap.size := hHeld.1.size
    have CI8a := hide ((unhide CI0a).below j8a)
    have o8ba := Own.new u0a 26
    generalize u0a.alloc (Obj.cells #[.int .i64 0, .bool false, .int .i64 0, .int .i64 0, .string ⟨#[]⟩, .slice none 0 0] 26) = u8a at *
    generalize u0a.heap.size = g8a at *
    clear j8a
    clear hHeld CI0a
    have hHeld := hHeld1
    clear hHeld1
    try simp only [Act.put, List.setIfInBounds_toArray, List.set_cons_zero, List.set_cons_succ]
    refine wpAnyH_ready (rs := [6]) (by kernel_rfl) (by simp) ?_
    refine AllReadyH.cons rfl (fun K0 hK0 => ?_) AllReadyH.nil
    · skip
      go_simp
      refine hK0.out _ _ ?hS9a (fun hHeld1 => ?_)
      case hS9a => exact unhide SK _ (keep_alloc hHeld _)
      clear hK0 K0
      have j9a := below1 u8a (Obj.cells #[.string ⟨#[118]⟩, .int .i64 k, .bool b, .int .i64 m, .int .i64 s, .string t, .slice ac lc cc] 28)
      have z9a : w1.heap.size ≤ u8a.heap.size := hHeld.1.size
      have o9ba := o8ba.below j9a
      have CI9a := hide ((unhide CI8a).below j9a)
      have EN9a := hide (env1 (w := u8a.alloc (Obj.cells #[.string ⟨#[118]⟩, .int .i64 k, .bool b, .int .i64 m, .int .i64 s, .string t, .slice ac lc cc] 28)) (g := u8a.heap.size) ⟨#[118]⟩ _ (unhide CI9a) (by go_simp) (fun j hj => by match j, hj with | 0, _ => (go_simp; rfl) | 1, _ => (go_simp; rfl) | 2, _ => (go_simp; rfl) | 3, _ => (go_simp; rfl) | 4, _ => (go_simp; rfl) | 5, _ => (go_simp; rfl)))
      have ne9ba : g8a ≠ u8a.heap.size := Nat.ne_of_lt o8ba.1.1
      generalize u8a.alloc (Obj.cells #[.string ⟨#[118]⟩, .int .i64 k, .bool b, .int .i64 m, .int .i64 s, .string t, .slice ac lc cc] 28) = u9a at *
      generalize u8a.heap.size = g9a at *
      clear j9a
      clear hHeld o8ba CI8a
      have hHeld := hHeld1
      clear hHeld1
      try simp only [Act.put, List.setIfInBounds_toArray, List.set_cons_zero, List.set_cons_succ]
      refine wpAnyH_ready (rs := [7]) (by kernel_rfl) (by simp) ?_
      refine AllReadyH.cons rfl (fun K0 hK0 => ?_) AllReadyH.nil
      · skip
        go_simp
        refine (unhide TD _ _ (unhide EN9a)).mono ?_
        rintro e u10a ⟨⟨v, rfl, T, rfl, hT, hTl, hTb⟩, j10a⟩
        obtain ⟨kz, bz, mz, sz, tz, az, lz, cz, kidz, rfl⟩ := hT.form
        have hk : kz = 0 := (congrArg kdV hTb).trans (unhide H3)
        subst hk
        clear hT hTl hTb
        dsimp only [VT.val]
        go_wp2_with fail
        refine hK0.out _ _ ?hS10a (fun hHeld1 => ?_)
        case hS10a => exact unhide SK _ (keep_call hHeld j10a)
        clear hK0 K0
        have o10ba := o9ba.below j10a
        have CI10a := hide ((unhide CI9a).below j10a)
        have EN10a := hide ((unhide EN9a).below j10a)
        clear j10a
        clear hHeld o9ba CI9a EN9a
        have hHeld := hHeld1
        clear hHeld1
        try simp only [Act.put, List.setIfInBounds_toArray, List.set_cons_zero, List.set_cons_succ]
        refine takeAt 8 (some 43) ?va8x10 ⟨_, rfl, rfl, rfl, ?hya8x10⟩ (by kernel_rfl) (by kernel_rfl) (by kernel_rfl) (fun _ _ _ h => h) (by assumption) ?_
        case hya8x10 => (intro w0 hSw; (try dsimp only at hSw); go_simp; try (with_reducible rfl))
        simp only [Act.put, List.setIfInBounds_toArray, List.set_cons_zero, List.set_cons_succ]
        refine takeAt 9 (some 52) ?va9x10 ⟨_, rfl, rfl, rfl, ?hya9x10⟩ (by kernel_rfl) (by kernel_rfl) (by kernel_rfl) (fun _ _ _ h => h) (by assumption) ?_
        case hya9x10 => (intro w0 hSw; (try dsimp only at hSw); go_simp; try (with_reducible rfl))
        simp only [Act.put, List.setIfInBounds_toArray, List.set_cons_zero, List.set_cons_succ]
        refine takeAt 10 (some 53) ?va10x10 ⟨_, rfl, rfl, rfl, ?hya10x10⟩ (by kernel_rfl) (by kernel_rfl) (by kernel_rfl) (fun _ _ _ h => h) (by assumption) ?_
        case hya10x10 => (intro w0 hSw; (try dsimp only at hSw); go_simp; try (with_reducible rfl))
        simp only [Act.put, List.setIfInBounds_toArray, List.set_cons_zero, List.set_cons_succ]
        refine wpAnyH_ready (rs := [12]) (by kernel_rfl) (by simp) ?_
        refine AllReadyH.cons rfl (fun K0 hK0 => ?_) AllReadyH.nil
        · skip
          obtain ⟨⟨-, e0, e1, e2, e3, e4, e5⟩, f0, f1, f2, f3, f4, f5⟩ := id o10ba
          simp only [Nat.zero_add] at e0 e1 e2 e3 e4 e5
          go_simp
          clear e0 e1 e2 e3 e4 e5 f0 f1 f2 f3 f4 f5
          refine hK0.out _ _ ?hS11a (fun hHeld1 => ?_)
          case hS11a => exact unhide SK _ (set6 hHeld.1 (by omega) _ _ _ _ _ _)
          clear hK0 K0
          have s11ba := Own.put o10ba 0 bz mz sz tz az lz cz
          generalize ((((((u10a.setCell ⟨g8a, 0, none⟩ (.int .i64 0)).setCell ⟨g8a, 1, none⟩ (.bool bz)).setCell ⟨g8a, 2, none⟩ (.int .i64 mz)).setCell ⟨g8a, 3, none⟩ (.int .i64 sz)).setCell ⟨g8a, 4, none⟩ (.string tz)).setCell ⟨g8a, 5, none⟩ (.slice az lz cz)) = u11a at *
          clear hHeld o10ba CI10a EN10a
          have hHeld := hHeld1
          clear hHeld1
          try simp only [Act.put, List.setIfInBounds_toArray, List.set_cons_zero, List.set_cons_succ]
          refine takeAt 13 (some 7) ?va13x11 ⟨_, rfl, rfl, rfl, ?hya13x11⟩ (by kernel_rfl) (by kernel_rfl) (by kernel_rfl) (fun _ _ _ h => h) (by assumption) ?_
          case hya13x11 => (intro w0 hSw; (try dsimp only at hSw); go_simp; try (with_reducible rfl))
          simp only [Act.put, List.setIfInBounds_toArray, List.set_cons_zero, List.set_cons_succ]
          refine wpAnyH_done (by kernel_rfl) ?_ _
          refine NoPanic.normal ?_
          obtain ⟨y0, y1, y2, y3, y4, y5, y6⟩ := s11ba
          simp only [Nat.zero_add] at y1 y2 y3 y4 y5 y6
          have BZ := hHeld.1
          clear hHeld
          go_wp2_with fail
          refine (eknown_any _).mono ?_
          rintro e w5 ⟨rfl, k5⟩
          go_wp2_with fail
          go_ret
          exact ⟨rfl, bstep (bstep B1 BZ) k5⟩

theorem evalWrong_walk (T : VT) (n : Int) (_ : (Lit.int .i64 n).wf = true) (w : World) (hin : T.In w) :
    Calls Tryz.prog 5 #[T.val, .int .i64 n] w fun e w' => e = .returned (.bool true) ∧ Below w.heap.size w w' := by
  obtain ⟨k, b, m, s, t, a, len, cap, kid, rfl⟩ := hin.form
  by_cases h : 20 < len ∨ (VT.mk k b m s t a len cap kid).okB 2 = false ∨ n < 0 ∨ 13 ≤ n ∨ k = 2 ∨ k = 3 ∨ k = 4
  · exact evalWrong_out k b m s t a len cap kid n w hin h
  · simp only [not_or] at h
    obtain ⟨h1, h2, h3, h4, h5, h6, h7⟩ := h
    obtain ⟨q, rfl⟩ : ∃ q : Nat, n = (q : Int) := ⟨n.toNat, by omega⟩
    exact evalWrong_in k b m s t a len cap kid q w hin h1 (by simpa using h2) (by omega) h5 h6 h7
end Go.Proofs.YtheoalmnbkjpjabGreat

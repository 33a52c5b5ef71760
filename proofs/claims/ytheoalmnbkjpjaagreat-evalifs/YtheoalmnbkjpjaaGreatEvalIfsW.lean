/- The walk of EvalIfs: an if asks its condition, and one of its sides alone. (Printed by mkifs.py.) -/
import Derived.Test.YtheoalmnbkjpjaaGreatHBC
import Derived.Test.YtheoalmnbkjpjaaGreatHAC
import Derived.Deep.RegionHeld3
namespace Go.Proofs.YtheoalmnbkjpjaaGreat
open Go.RowKit
open VT (leaf mkV)
set_option linter.unusedVariables false
set_option linter.unusedSimpArgs false
attribute [local go_sem ↓] Go.wp_at_zero Go.wp_at_succ

def xC : XT := .mk 5 false 0 0 ⟨#[99]⟩ false false none 0 0 (fun i => [].getD i .none)
def xA (a : Int) : XT := .mk 3 false a 0 ⟨#[]⟩ false false none 0 0 (fun i => [].getD i .none)
def xB : XT := .mk 77 false 0 0 ⟨#[]⟩ false false none 0 0 (fun i => [].getD i .none)
def xIf (g : Nat) (l : List XT) : XT := .mk 8 false 0 0 ⟨#[]⟩ false false (some ⟨g, 0, none⟩) l.length 3 (fun i => l.getD i .none)
theorem fit_leaf (k : Int) (m : Int) (t : ByteArray) (ht : t.size ≤ 10) (kid : Nat → XT) : fitX (.mk k false m 0 t false false none 0 0 kid) := ⟨by unfold maxLen; omega, Nat.zero_le _, fun i hi => absurd hi (Nat.not_lt_zero _)⟩
theorem if_fit (g : Nat) (x y z : XT) (hx : fitX x) (hy : fitX y) (hz : fitX z) : fitX (xIf g [x, y, z]) := by
  refine ⟨by unfold maxLen; simp [ByteArray.size], by simp, fun i hi => ?_⟩
  match i, hi with
  | 0, _ => exact hx
  | 1, _ => exact hy
  | 2, _ => exact hz
theorem if_in {w : World} {g : Nat} (x y z : XT) (hx : x.In (fun _ => True) w) (hy : y.In (fun _ => True) w) (hz : z.In (fun _ => True) w) (h0 : ∀ j, j < 8 → w.cell? ⟨g, j, none⟩ = x.cells[j]?) (h1 : ∀ j, j < 8 → w.cell? ⟨g, 8 + j, none⟩ = y.cells[j]?) (h2 : ∀ j, j < 8 → w.cell? ⟨g, 16 + j, none⟩ = z.cells[j]?) : (xIf g [x, y, z]).In (fun _ => True) w := by
  refine in_row trivial [x, y, z] (by unfold maxLen; simp) (fun i hi j hj => ?_) (fun v hv => ?_) _ _ _ _ _ _ _ _
  · match i, hi with
    | 0, _ => simpa using h0 j hj
    | 1, _ => simpa using h1 j hj
    | 2, _ => simpa using h2 j hj
  · rcases List.mem_cons.1 hv with h | h
    · rw [h]; exact hx
    rcases List.mem_cons.1 h with h | h
    · rw [h]; exact hy
    rcases List.mem_cons.1 h with h | h
    · rw [h]; exact hz
    · cases h
theorem eight_of {w : World} {f : Nat → Option Value} {l : List Value} (h0 : f 0 = l[0]?) (h1 : f 1 = l[1]?) (h2 : f 2 = l[2]?) (h3 : f 3 = l[3]?) (h4 : f 4 = l[4]?) (h5 : f 5 = l[5]?) (h6 : f 6 = l[6]?) (h7 : f 7 = l[7]?) : ∀ j, j < 8 → f j = l[j]? := by
  intro j hj
  match j, hj with
  | 0, _ => exact h0
  | 1, _ => exact h1
  | 2, _ => exact h2
  | 3, _ => exact h3
  | 4, _ => exact h4
  | 5, _ => exact h5
  | 6, _ => exact h6
  | 7, _ => exact h7
theorem ev_C (x : VT) : evT [([99], x)] xC = (x, 0) := by
  unfold xC evT
  rw [if_neg (by simp [souB]), if_neg (by decide), if_neg (by decide), if_neg (by decide), if_neg (by decide), if_pos rfl]
  rfl
theorem ev_A (env : List (List UInt8 × VT)) (a : Int) (h : isB a 0 = true) : evT env (xA a) = (numV a 0, 0) := by
  unfold xA evT
  rw [if_neg (by simp [souB, h]), if_neg (by decide), if_neg (by decide), if_pos rfl]
theorem ev_B (env : List (List UInt8 × VT)) : evT env xB = (nilV, 1) := by
  unfold xB evT
  rw [if_pos (by simp [souB])]
theorem ev_if (env : List (List UInt8 × VT)) (g : Nat) (x y z : XT) (h : (evT env x).2 = 0) : evT env (xIf g [x, y, z]) = if trV (evT env x).1 = true then evT env y else evT env z := by
  unfold xIf
  conv => lhs; unfold evT
  rw [if_neg (by simp [souB]), if_neg (by decide), if_neg (by decide), if_neg (by decide), if_neg (by decide), if_neg (by decide), if_pos rfl]
  show (if (evT env x).2 = 0 then _ else _) = _
  rw [if_pos h]
  rfl
theorem eight_new (w : World) (k : Int) (b : Bool) (m s : Int) (t : ByteArray) (lo hi : Bool) (a : Option Addr) (len cap : Nat) : XT.Eight (w.alloc (Obj.cells #[.int .i64 k, .bool b, .int .i64 m, .int .i64 s, .string t, .bool lo, .bool hi, .slice a len cap] 26)) w.heap.size 0 k b m s t lo hi a len cap :=
  ⟨by simp, by go_simp, by go_simp, by go_simp, by go_simp, by go_simp, by go_simp, by go_simp, by go_simp⟩

set_option maxHeartbeats 8000000 in
set_option maxRecDepth 10000 in
theorem evalIfs_in (k : Int) (b : Bool) (m s : Int) (t : ByteArray) (ac : Option Addr) (lc cc : Nat) (kid : Nat → VT) (a a2 : Int) (w : World) (hc : (VT.mk k b m s t ac lc cc kid).In w) (hok : (VT.mk k b m s t ac lc cc kid).okB 2 = true) (hl : ¬ 20 < lc) (a1 : 0 ≤ a) (a3 : a ≤ 1000) (b1 : 0 ≤ a2) (b2 : a2 ≤ 1000) :
    Calls Tryz.prog 6 #[.agg #[.int .i64 k, .bool b, .int .i64 m, .int .i64 s, .string t, .slice ac lc cc], .int .i64 a, .int .i64 a2] w fun e w' => e = .returned (.bool true) ∧ Below w.heap.size w w' := by
  have hl' : ¬ 20 < (lc : Int) := by omega
  have b0 := below1 w (Obj.cells #[.int .i64 k, .bool b, .int .i64 m, .int .i64 s, .string t, .slice ac lc cc] 32)
  have X0 := six_new w k b m s t ac lc cc
  have IS := rIs_any (VT.mk k b m s t ac lc cc kid) _ (hc.below b0)
  rw [hok] at IS
  have HIS := hide IS
  have HC := hide (hc.below b0)
  have HOK := hide hok
  have hisa : isB a 0 = true := isB_whole (by omega) (by omega)
  have E1 := fun (ga : Option Addr) g w h1 h3 => eval_any (xIf g [xC, xA a, xB]) [(⟨#[99]⟩, VT.mk k b m s t ac lc cc kid)] ga 1 w h1 (if_fit g _ _ _ (fit_leaf _ _ _ (by decide) _) (fit_leaf _ _ _ (by decide) _) (fit_leaf _ _ _ (by decide) _)) h3 (by unfold maxLen; simp) (fun e he => by rcases List.mem_cons.1 he with h | h; rw [h]; exact hok; cases h)
  have E2 := fun (ga : Option Addr) g w h1 h3 => eval_any (xIf g [xC, xB, xA a]) [(⟨#[99]⟩, VT.mk k b m s t ac lc cc kid)] ga 1 w h1 (if_fit g _ _ _ (fit_leaf _ _ _ (by decide) _) (fit_leaf _ _ _ (by decide) _) (fit_leaf _ _ _ (by decide) _)) h3 (by unfold maxLen; simp) (fun e he => by rcases List.mem_cons.1 he with h | h; rw [h]; exact hok; cases h)
  have eE : envT [(⟨#[99]⟩, VT.mk k b m s t ac lc cc kid)] = [([99], (VT.mk k b m s t ac lc cc kid).bare)] := rfl
  have eT : trV (VT.mk k b m s t ac lc cc kid).bare = trB k b := rfl
  rw [eE] at E1 E2
  simp only [ev_if _ _ _ _ _ (show (evT [([99], (VT.mk k b m s t ac lc cc kid).bare)] xC).2 = 0 by rw [ev_C]), ev_C, ev_A _ a hisa, ev_B, eT] at E1 E2
  have EH1 := hide E1
  have EH2 := hide E2
  clear E1 E2 eE eT IS hok hl hc hisa
  cases hT : trB k b
  · rw [hT, if_neg (by simp)] at EH1 EH2
    have HTR := hide hT
    clear hT

    go_enter Tryz.func6, Tryz.ntmps6
    go_wp2_with fail
    refine (unhide HIS).mono ?_
    rintro e w1 ⟨rfl, k1⟩
    have X1 := X0.below k1
    have B1 := bstep b0 k1
    have C1 := hide ((unhide HC).below k1)
    have z1 : w.heap.size + 1 ≤ w1.heap.size := by have := k1.size; simpa using this
    clear k1 b0 X0
    obtain ⟨x0, x1, x2, x3, x4, x5, x6⟩ := id X1
    simp only [Nat.zero_add] at x1 x2 x3 x4 x5 x6
    have F0 := (((eight_new w1 77 false 0 0 ⟨#[]⟩ false false none 0 0).below (below1 _ (Obj.cells #[.int .i64 3, .bool false, .int .i64 a, .int .i64 0, .string ⟨#[]⟩, .bool false, .bool false, .slice none 0 0] 26))).below (below1 _ (Obj.cells #[.string ⟨#[99]⟩, .int .i64 k, .bool b, .int .i64 m, .int .i64 s, .string t, .slice ac lc cc] 48))).below (below1 _ (Obj.cells #[.int .i64 5, .bool false, .int .i64 0, .int .i64 0, .string ⟨#[99]⟩, .bool false, .bool false, .slice none 0 0] 26))
    have F1 := ((eight_new (w1.alloc (Obj.cells #[.int .i64 77, .bool false, .int .i64 0, .int .i64 0, .string ⟨#[]⟩, .bool false, .bool false, .slice none 0 0] 26)) 3 false a 0 ⟨#[]⟩ false false none 0 0).below (below1 _ (Obj.cells #[.string ⟨#[99]⟩, .int .i64 k, .bool b, .int .i64 m, .int .i64 s, .string t, .slice ac lc cc] 48))).below (below1 _ (Obj.cells #[.int .i64 5, .bool false, .int .i64 0, .int .i64 0, .string ⟨#[99]⟩, .bool false, .bool false, .slice none 0 0] 26))
    have F3 := eight_new (((w1.alloc (Obj.cells #[.int .i64 77, .bool false, .int .i64 0, .int .i64 0, .string ⟨#[]⟩, .bool false, .bool false, .slice none 0 0] 26)).alloc (Obj.cells #[.int .i64 3, .bool false, .int .i64 a, .int .i64 0, .string ⟨#[]⟩, .bool false, .bool false, .slice none 0 0] 26)).alloc (Obj.cells #[.string ⟨#[99]⟩, .int .i64 k, .bool b, .int .i64 m, .int .i64 s, .string t, .slice ac lc cc] 48)) 5 false 0 0 ⟨#[99]⟩ false false none 0 0
    have FE : EnvIn ((((w1.alloc (Obj.cells #[.int .i64 77, .bool false, .int .i64 0, .int .i64 0, .string ⟨#[]⟩, .bool false, .bool false, .slice none 0 0] 26)).alloc (Obj.cells #[.int .i64 3, .bool false, .int .i64 a, .int .i64 0, .string ⟨#[]⟩, .bool false, .bool false, .slice none 0 0] 26)).alloc (Obj.cells #[.string ⟨#[99]⟩, .int .i64 k, .bool b, .int .i64 m, .int .i64 s, .string t, .slice ac lc cc] 48)).alloc (Obj.cells #[.int .i64 5, .bool false, .int .i64 0, .int .i64 0, .string ⟨#[99]⟩, .bool false, .bool false, .slice none 0 0] 26)) (some ⟨w1.heap.size + 2, 0, none⟩) [(⟨#[99]⟩, VT.mk k b m s t ac lc cc kid)] := env1 _ _ ((((unhide C1).below (below1 _ _)).below (below1 _ _)).below (below1 _ _) |>.below (below1 _ _)) (by go_simp) (fun j hj => by match j, hj with | 0, _ => (go_simp; rfl) | 1, _ => (go_simp; rfl) | 2, _ => (go_simp; rfl) | 3, _ => (go_simp; rfl) | 4, _ => (go_simp; rfl) | 5, _ => (go_simp; rfl))
    have X2 := (((X1.below (below1 _ (Obj.cells #[.int .i64 77, .bool false, .int .i64 0, .int .i64 0, .string ⟨#[]⟩, .bool false, .bool false, .slice none 0 0] 26))).below (below1 _ (Obj.cells #[.int .i64 3, .bool false, .int .i64 a, .int .i64 0, .string ⟨#[]⟩, .bool false, .bool false, .slice none 0 0] 26))).below (below1 _ (Obj.cells #[.string ⟨#[99]⟩, .int .i64 k, .bool b, .int .i64 m, .int .i64 s, .string t, .slice ac lc cc] 48))).below (below1 _ (Obj.cells #[.int .i64 5, .bool false, .int .i64 0, .int .i64 0, .string ⟨#[99]⟩, .bool false, .bool false, .slice none 0 0] 26))
    have B2 := (((bstep B1 (below1 _ (Obj.cells #[.int .i64 77, .bool false, .int .i64 0, .int .i64 0, .string ⟨#[]⟩, .bool false, .bool false, .slice none 0 0] 26))) |> (bstep · (below1 _ (Obj.cells #[.int .i64 3, .bool false, .int .i64 a, .int .i64 0, .string ⟨#[]⟩, .bool false, .bool false, .slice none 0 0] 26)))) |> (bstep · (below1 _ (Obj.cells #[.string ⟨#[99]⟩, .int .i64 k, .bool b, .int .i64 m, .int .i64 s, .string t, .slice ac lc cc] 48)))) |> (bstep · (below1 _ (Obj.cells #[.int .i64 5, .bool false, .int .i64 0, .int .i64 0, .string ⟨#[99]⟩, .bool false, .bool false, .slice none 0 0] 26)))
    have C2 := hide (((((unhide C1).below (below1 _ (Obj.cells #[.int .i64 77, .bool false, .int .i64 0, .int .i64 0, .string ⟨#[]⟩, .bool false, .bool false, .slice none 0 0] 26))).below (below1 _ (Obj.cells #[.int .i64 3, .bool false, .int .i64 a, .int .i64 0, .string ⟨#[]⟩, .bool false, .bool false, .slice none 0 0] 26))).below (below1 _ (Obj.cells #[.string ⟨#[99]⟩, .int .i64 k, .bool b, .int .i64 m, .int .i64 s, .string t, .slice ac lc cc] 48))).below (below1 _ (Obj.cells #[.int .i64 5, .bool false, .int .i64 0, .int .i64 0, .string ⟨#[99]⟩, .bool false, .bool false, .slice none 0 0] 26)))
    go_wp2_with fail
    refine (unhide EH1 _ _ _ (if_in (xC) (xA a) (xB) (in_leaf _ _ _ _ _ _ _) (in_leaf _ _ _ _ _ _ _) (in_leaf _ _ _ _ _ _ _) (eight_of (w := w) (by go_simp; rfl) (by go_simp; rfl) (by go_simp; rfl) (by go_simp; rfl) (by go_simp; rfl) (by go_simp; rfl) (by go_simp; rfl) (by go_simp; rfl)) (eight_of (w := w) (by go_simp; rfl) (by go_simp; rfl) (by go_simp; rfl) (by go_simp; rfl) (by go_simp; rfl) (by go_simp; rfl) (by go_simp; rfl) (by go_simp; rfl)) (eight_of (w := w) (by go_simp; rfl) (by go_simp; rfl) (by go_simp; rfl) (by go_simp; rfl) (by go_simp; rfl) (by go_simp; rfl) (by go_simp; rfl) (by go_simp; rfl))) (FE.below (below1 _ (Obj.cells #[.int .i64 5, .bool false, .int .i64 0, .int .i64 0, .string ⟨#[99]⟩, .bool false, .bool false, .slice none 0 0, .int .i64 3, .bool false, .int .i64 a, .int .i64 0, .string ⟨#[]⟩, .bool false, .bool false, .slice none 0 0, .int .i64 77, .bool false, .int .i64 0, .int .i64 0, .string ⟨#[]⟩, .bool false, .bool false, .slice none 0 0] 26)))).mono ?_
    rintro e w2 ⟨⟨v, rfl, T1, rfl, hT1, hTl1, hTb1⟩, k2⟩
    have F0' := (F0.below (below1 _ (Obj.cells #[.int .i64 5, .bool false, .int .i64 0, .int .i64 0, .string ⟨#[99]⟩, .bool false, .bool false, .slice none 0 0, .int .i64 3, .bool false, .int .i64 a, .int .i64 0, .string ⟨#[]⟩, .bool false, .bool false, .slice none 0 0, .int .i64 77, .bool false, .int .i64 0, .int .i64 0, .string ⟨#[]⟩, .bool false, .bool false, .slice none 0 0] 26))).below k2
    have F1' := (F1.below (below1 _ (Obj.cells #[.int .i64 5, .bool false, .int .i64 0, .int .i64 0, .string ⟨#[99]⟩, .bool false, .bool false, .slice none 0 0, .int .i64 3, .bool false, .int .i64 a, .int .i64 0, .string ⟨#[]⟩, .bool false, .bool false, .slice none 0 0, .int .i64 77, .bool false, .int .i64 0, .int .i64 0, .string ⟨#[]⟩, .bool false, .bool false, .slice none 0 0] 26))).below k2
    have F3' := (F3.below (below1 _ (Obj.cells #[.int .i64 5, .bool false, .int .i64 0, .int .i64 0, .string ⟨#[99]⟩, .bool false, .bool false, .slice none 0 0, .int .i64 3, .bool false, .int .i64 a, .int .i64 0, .string ⟨#[]⟩, .bool false, .bool false, .slice none 0 0, .int .i64 77, .bool false, .int .i64 0, .int .i64 0, .string ⟨#[]⟩, .bool false, .bool false, .slice none 0 0] 26))).below k2
    have FE' := hide ((FE.below (below1 _ (Obj.cells #[.int .i64 5, .bool false, .int .i64 0, .int .i64 0, .string ⟨#[99]⟩, .bool false, .bool false, .slice none 0 0, .int .i64 3, .bool false, .int .i64 a, .int .i64 0, .string ⟨#[]⟩, .bool false, .bool false, .slice none 0 0, .int .i64 77, .bool false, .int .i64 0, .int .i64 0, .string ⟨#[]⟩, .bool false, .bool false, .slice none 0 0] 26))).below k2)
    have X3 := (X2.below (below1 _ (Obj.cells #[.int .i64 5, .bool false, .int .i64 0, .int .i64 0, .string ⟨#[99]⟩, .bool false, .bool false, .slice none 0 0, .int .i64 3, .bool false, .int .i64 a, .int .i64 0, .string ⟨#[]⟩, .bool false, .bool false, .slice none 0 0, .int .i64 77, .bool false, .int .i64 0, .int .i64 0, .string ⟨#[]⟩, .bool false, .bool false, .slice none 0 0] 26))).below k2
    have B3 := bstep (bstep B2 (below1 _ (Obj.cells #[.int .i64 5, .bool false, .int .i64 0, .int .i64 0, .string ⟨#[99]⟩, .bool false, .bool false, .slice none 0 0, .int .i64 3, .bool false, .int .i64 a, .int .i64 0, .string ⟨#[]⟩, .bool false, .bool false, .slice none 0 0, .int .i64 77, .bool false, .int .i64 0, .int .i64 0, .string ⟨#[]⟩, .bool false, .bool false, .slice none 0 0] 26))) k2
    have z2 : w1.heap.size + 5 ≤ w2.heap.size := by have := k2.size; simpa using this
    obtain ⟨kp, bp, mp, sp, tp, ap, lp, cp, kidp, rfl⟩ := hT1.form
    have HT1 := hide hT1
    clear k2 F0 F1 F3 FE X1 X2 B1 B2 EH1 hT1 hTl1 hTb1 x0 x1 x2 x3 x4 x5 x6
    have e1 : (w1.alloc (Obj.cells #[.int .i64 77, .bool false, .int .i64 0, .int .i64 0, .string ⟨#[]⟩, .bool false, .bool false, .slice none 0 0] 26)).heap.size = w1.heap.size + 1 := by simp
    have e3 : (((w1.alloc (Obj.cells #[.int .i64 77, .bool false, .int .i64 0, .int .i64 0, .string ⟨#[]⟩, .bool false, .bool false, .slice none 0 0] 26)).alloc (Obj.cells #[.int .i64 3, .bool false, .int .i64 a, .int .i64 0, .string ⟨#[]⟩, .bool false, .bool false, .slice none 0 0] 26)).alloc (Obj.cells #[.string ⟨#[99]⟩, .int .i64 k, .bool b, .int .i64 m, .int .i64 s, .string t, .slice ac lc cc] 48)).heap.size = w1.heap.size + 1 + 1 + 1 := by simp
    rw [e1] at F1'
    rw [e3] at F3'
    clear e1 e3
    obtain ⟨p0, p1, p2, p3, p4, p5, p6, p7, p8⟩ := F0'
    obtain ⟨q0, q1, q2, q3, q4, q5, q6, q7, q8⟩ := F1'
    obtain ⟨r0, r1, r2, r3, r4, r5, r6, r7, r8⟩ := F3'
    obtain ⟨x0, x1, x2, x3, x4, x5, x6⟩ := id X3
    simp only [Nat.zero_add] at x1 x2 x3 x4 x5 x6 p1 p2 p3 p4 p5 p6 p7 p8 q1 q2 q3 q4 q5 q6 q7 q8 r1 r2 r3 r4 r5 r6 r7 r8
    dsimp only [VT.val]
    go_wp2_with fail
    have G0 := (six_new w2 kp bp mp sp tp ap lp cp).below (below1 _ (Obj.cells #[.int .i64 5, .bool false, .int .i64 0, .int .i64 0, .string ⟨#[99]⟩, .bool false, .bool false, .slice none 0 0, .int .i64 77, .bool false, .int .i64 0, .int .i64 0, .string ⟨#[]⟩, .bool false, .bool false, .slice none 0 0, .int .i64 3, .bool false, .int .i64 a, .int .i64 0, .string ⟨#[]⟩, .bool false, .bool false, .slice none 0 0] 26))
    refine (unhide EH2 _ _ _ (if_in (xC) (xB) (xA a) (in_leaf _ _ _ _ _ _ _) (in_leaf _ _ _ _ _ _ _) (in_leaf _ _ _ _ _ _ _) (eight_of (w := w) (by go_simp; rfl) (by go_simp; rfl) (by go_simp; rfl) (by go_simp; rfl) (by go_simp; rfl) (by go_simp; rfl) (by go_simp; rfl) (by go_simp; rfl)) (eight_of (w := w) (by go_simp; rfl) (by go_simp; rfl) (by go_simp; rfl) (by go_simp; rfl) (by go_simp; rfl) (by go_simp; rfl) (by go_simp; rfl) (by go_simp; rfl)) (eight_of (w := w) (by go_simp; rfl) (by go_simp; rfl) (by go_simp; rfl) (by go_simp; rfl) (by go_simp; rfl) (by go_simp; rfl) (by go_simp; rfl) (by go_simp; rfl))) (((unhide FE').below (below1 _ (Obj.cells #[.int .i64 kp, .bool bp, .int .i64 mp, .int .i64 sp, .string tp, .slice ap lp cp] 32))).below (below1 _ (Obj.cells #[.int .i64 5, .bool false, .int .i64 0, .int .i64 0, .string ⟨#[99]⟩, .bool false, .bool false, .slice none 0 0, .int .i64 77, .bool false, .int .i64 0, .int .i64 0, .string ⟨#[]⟩, .bool false, .bool false, .slice none 0 0, .int .i64 3, .bool false, .int .i64 a, .int .i64 0, .string ⟨#[]⟩, .bool false, .bool false, .slice none 0 0] 26)))).mono ?_
    rintro e w3 ⟨⟨v, rfl, T2, rfl, hT2, hTl2, hTb2⟩, k3⟩
    have G1 := G0.below k3
    have X4 := ((X3.below (below1 _ (Obj.cells #[.int .i64 kp, .bool bp, .int .i64 mp, .int .i64 sp, .string tp, .slice ap lp cp] 32))).below (below1 _ (Obj.cells #[.int .i64 5, .bool false, .int .i64 0, .int .i64 0, .string ⟨#[99]⟩, .bool false, .bool false, .slice none 0 0, .int .i64 77, .bool false, .int .i64 0, .int .i64 0, .string ⟨#[]⟩, .bool false, .bool false, .slice none 0 0, .int .i64 3, .bool false, .int .i64 a, .int .i64 0, .string ⟨#[]⟩, .bool false, .bool false, .slice none 0 0] 26))).below k3
    have B4 := bstep (bstep (bstep B3 (below1 _ (Obj.cells #[.int .i64 kp, .bool bp, .int .i64 mp, .int .i64 sp, .string tp, .slice ap lp cp] 32))) (below1 _ (Obj.cells #[.int .i64 5, .bool false, .int .i64 0, .int .i64 0, .string ⟨#[99]⟩, .bool false, .bool false, .slice none 0 0, .int .i64 77, .bool false, .int .i64 0, .int .i64 0, .string ⟨#[]⟩, .bool false, .bool false, .slice none 0 0, .int .i64 3, .bool false, .int .i64 a, .int .i64 0, .string ⟨#[]⟩, .bool false, .bool false, .slice none 0 0] 26))) k3
    have z3 : w2.heap.size + 2 ≤ w3.heap.size := by have := k3.size; simpa using this
    obtain ⟨aq, cq, kidq, rfl⟩ := num_form hT2 hTb2
    have HT2 := hide hT2
    clear k3 EH2 hT2 hTl2 hTb2 FE' G0 X3 B3 x0 x1 x2 x3 x4 x5 x6 p0 p1 p2 p3 p4 p5 p6 p7 p8 q0 q1 q2 q3 q4 q5 q6 q7 q8 r0 r1 r2 r3 r4 r5 r6 r7 r8
    obtain ⟨x0, x1, x2, x3, x4, x5, x6⟩ := id X4
    simp only [Nat.zero_add] at x1 x2 x3 x4 x5 x6
    dsimp only [VT.val]
    go_wp2_with fail
    refine (rtruth_any _ _ _ _ _ _ _ _ _).mono ?_
    rintro e w4 ⟨rfl, k4⟩
    rw [unhide HTR]
    have G2 := (six_new w3 2 false a 0 ⟨#[]⟩ aq 0 cq).below k4
    have B5 := bstep (bstep B4 (below1 _ (Obj.cells #[.int .i64 2, .bool false, .int .i64 a, .int .i64 0, .string ⟨#[]⟩, .slice aq 0 cq] 32))) k4
    clear k4 G1 X4 B4 x0 x1 x2 x3 x4 x5 x6
    generalize w3.heap.size = G at *
    obtain ⟨y0, y1, y2, y3, y4, y5, y6⟩ := G2
    simp only [Nat.zero_add] at y1 y2 y3 y4 y5 y6
    go_wp2_with fail
    have S0 : Hid (Below w4.heap.size w4 w4.drew ∧ w4.drew.cell? ⟨G, 0, none⟩ = some (.int .i64 2) ∧ w4.drew.cell? ⟨G, 1, none⟩ = some (.bool false) ∧ w4.drew.cell? ⟨G, 2, none⟩ = some (.int .i64 a) ∧ w4.drew.cell? ⟨G, 3, none⟩ = some (.int .i64 0) ∧ w4.drew.cell? ⟨G, 4, none⟩ = some (.string ⟨#[]⟩) ∧ w4.drew.cell? ⟨G, 5, none⟩ = some (.slice aq 0 cq)) := ⟨(Below.refl _ _).drew, y1, y2, y3, y4, y5, y6⟩
    have SK : Hid (∀ x w', (Below w4.heap.size w4 x ∧ x.cell? ⟨G, 0, none⟩ = some (.int .i64 2) ∧ x.cell? ⟨G, 1, none⟩ = some (.bool false) ∧ x.cell? ⟨G, 2, none⟩ = some (.int .i64 a) ∧ x.cell? ⟨G, 3, none⟩ = some (.int .i64 0) ∧ x.cell? ⟨G, 4, none⟩ = some (.string ⟨#[]⟩) ∧ x.cell? ⟨G, 5, none⟩ = some (.slice aq 0 cq)) → Below x.heap.size x w' → (Below w4.heap.size w4 w' ∧ w'.cell? ⟨G, 0, none⟩ = some (.int .i64 2) ∧ w'.cell? ⟨G, 1, none⟩ = some (.bool false) ∧ w'.cell? ⟨G, 2, none⟩ = some (.int .i64 a) ∧ w'.cell? ⟨G, 3, none⟩ = some (.int .i64 0) ∧ w'.cell? ⟨G, 4, none⟩ = some (.string ⟨#[]⟩) ∧ w'.cell? ⟨G, 5, none⟩ = some (.slice aq 0 cq))) := by
      rintro x w' ⟨h0, h1, h2, h3, h4, h5, h6⟩ kk
      have zz := h0.size
      exact ⟨bstep h0 kk, kcell kk (by omega) h1, kcell kk (by omega) h2, kcell kk (by omega) h3, kcell kk (by omega) h4, kcell kk (by omega) h5, kcell kk (by omega) h6⟩
    go_region_held3 (fun w' => Below w4.heap.size w4 w' ∧ w'.cell? ⟨G, 0, none⟩ = some (.int .i64 2) ∧ w'.cell? ⟨G, 1, none⟩ = some (.bool false) ∧ w'.cell? ⟨G, 2, none⟩ = some (.int .i64 a) ∧ w'.cell? ⟨G, 3, none⟩ = some (.int .i64 0) ∧ w'.cell? ⟨G, 4, none⟩ = some (.string ⟨#[]⟩) ∧ w'.cell? ⟨G, 5, none⟩ = some (.slice aq 0 cq))
      (first | exact unhide S0 | assumption | exact unhide SK _ _ (by assumption) k4 | exact unhide SK _ _ (by assumption) (below1 _ _) | exact unhide SK _ _ (by assumption) (by (repeat (first | with_reducible assumption | with_reducible exact Below.refl _ _ | (with_reducible refine Below.setCell ?_ ?_ _; rotate_left; (focus (first | omega | (simp; done) | (simp; omega) | (dsimp only; omega)))) | (with_reducible refine Below.alloc ?_ ?_ _; rotate_left; (focus (first | omega | (simp; done) | (simp; omega) | (dsimp only; omega)))) | with_reducible refine Below.drew ?_ | with_reducible refine below_dN ?_ _))))
      (first
        | (go_at_call 20; refine (lnum_any _ _).mono ?_; unfold lfv; rintro e w5 ⟨rfl, k4⟩)
        | (go_at_call 13; refine (slf_same 2 false a 0 ⟨#[]⟩ aq cq kidq (unhide HT2) _).mono ?_; rintro e w5 ⟨rfl, k4⟩)
        | (go_at_call 15; refine (eknown_any _).mono ?_; rintro e w5 ⟨rfl, k4⟩))
    all_goals
      go_wp2_with fail
      go_ret
      exact ⟨rfl, bstep B5 (And.left (by assumption))⟩
  · rw [hT, if_pos rfl] at EH1 EH2
    have HTR := hide hT
    clear hT
    go_enter Tryz.func6, Tryz.ntmps6
    go_wp2_with fail
    refine (unhide HIS).mono ?_
    rintro e w1 ⟨rfl, k1⟩
    have X1 := X0.below k1
    have B1 := bstep b0 k1
    have C1 := hide ((unhide HC).below k1)
    have z1 : w.heap.size + 1 ≤ w1.heap.size := by have := k1.size; simpa using this
    clear k1 b0 X0
    obtain ⟨x0, x1, x2, x3, x4, x5, x6⟩ := id X1
    simp only [Nat.zero_add] at x1 x2 x3 x4 x5 x6
    have F0 := (((eight_new w1 77 false 0 0 ⟨#[]⟩ false false none 0 0).below (below1 _ (Obj.cells #[.int .i64 3, .bool false, .int .i64 a, .int .i64 0, .string ⟨#[]⟩, .bool false, .bool false, .slice none 0 0] 26))).below (below1 _ (Obj.cells #[.string ⟨#[99]⟩, .int .i64 k, .bool b, .int .i64 m, .int .i64 s, .string t, .slice ac lc cc] 48))).below (below1 _ (Obj.cells #[.int .i64 5, .bool false, .int .i64 0, .int .i64 0, .string ⟨#[99]⟩, .bool false, .bool false, .slice none 0 0] 26))
    have F1 := ((eight_new (w1.alloc (Obj.cells #[.int .i64 77, .bool false, .int .i64 0, .int .i64 0, .string ⟨#[]⟩, .bool false, .bool false, .slice none 0 0] 26)) 3 false a 0 ⟨#[]⟩ false false none 0 0).below (below1 _ (Obj.cells #[.string ⟨#[99]⟩, .int .i64 k, .bool b, .int .i64 m, .int .i64 s, .string t, .slice ac lc cc] 48))).below (below1 _ (Obj.cells #[.int .i64 5, .bool false, .int .i64 0, .int .i64 0, .string ⟨#[99]⟩, .bool false, .bool false, .slice none 0 0] 26))
    have F3 := eight_new (((w1.alloc (Obj.cells #[.int .i64 77, .bool false, .int .i64 0, .int .i64 0, .string ⟨#[]⟩, .bool false, .bool false, .slice none 0 0] 26)).alloc (Obj.cells #[.int .i64 3, .bool false, .int .i64 a, .int .i64 0, .string ⟨#[]⟩, .bool false, .bool false, .slice none 0 0] 26)).alloc (Obj.cells #[.string ⟨#[99]⟩, .int .i64 k, .bool b, .int .i64 m, .int .i64 s, .string t, .slice ac lc cc] 48)) 5 false 0 0 ⟨#[99]⟩ false false none 0 0
    have FE : EnvIn ((((w1.alloc (Obj.cells #[.int .i64 77, .bool false, .int .i64 0, .int .i64 0, .string ⟨#[]⟩, .bool false, .bool false, .slice none 0 0] 26)).alloc (Obj.cells #[.int .i64 3, .bool false, .int .i64 a, .int .i64 0, .string ⟨#[]⟩, .bool false, .bool false, .slice none 0 0] 26)).alloc (Obj.cells #[.string ⟨#[99]⟩, .int .i64 k, .bool b, .int .i64 m, .int .i64 s, .string t, .slice ac lc cc] 48)).alloc (Obj.cells #[.int .i64 5, .bool false, .int .i64 0, .int .i64 0, .string ⟨#[99]⟩, .bool false, .bool false, .slice none 0 0] 26)) (some ⟨w1.heap.size + 2, 0, none⟩) [(⟨#[99]⟩, VT.mk k b m s t ac lc cc kid)] := env1 _ _ ((((unhide C1).below (below1 _ _)).below (below1 _ _)).below (below1 _ _) |>.below (below1 _ _)) (by go_simp) (fun j hj => by match j, hj with | 0, _ => (go_simp; rfl) | 1, _ => (go_simp; rfl) | 2, _ => (go_simp; rfl) | 3, _ => (go_simp; rfl) | 4, _ => (go_simp; rfl) | 5, _ => (go_simp; rfl))
    have X2 := (((X1.below (below1 _ (Obj.cells #[.int .i64 77, .bool false, .int .i64 0, .int .i64 0, .string ⟨#[]⟩, .bool false, .bool false, .slice none 0 0] 26))).below (below1 _ (Obj.cells #[.int .i64 3, .bool false, .int .i64 a, .int .i64 0, .string ⟨#[]⟩, .bool false, .bool false, .slice none 0 0] 26))).below (below1 _ (Obj.cells #[.string ⟨#[99]⟩, .int .i64 k, .bool b, .int .i64 m, .int .i64 s, .string t, .slice ac lc cc] 48))).below (below1 _ (Obj.cells #[.int .i64 5, .bool false, .int .i64 0, .int .i64 0, .string ⟨#[99]⟩, .bool false, .bool false, .slice none 0 0] 26))
    have B2 := (((bstep B1 (below1 _ (Obj.cells #[.int .i64 77, .bool false, .int .i64 0, .int .i64 0, .string ⟨#[]⟩, .bool false, .bool false, .slice none 0 0] 26))) |> (bstep · (below1 _ (Obj.cells #[.int .i64 3, .bool false, .int .i64 a, .int .i64 0, .string ⟨#[]⟩, .bool false, .bool false, .slice none 0 0] 26)))) |> (bstep · (below1 _ (Obj.cells #[.string ⟨#[99]⟩, .int .i64 k, .bool b, .int .i64 m, .int .i64 s, .string t, .slice ac lc cc] 48)))) |> (bstep · (below1 _ (Obj.cells #[.int .i64 5, .bool false, .int .i64 0, .int .i64 0, .string ⟨#[99]⟩, .bool false, .bool false, .slice none 0 0] 26)))
    have C2 := hide (((((unhide C1).below (below1 _ (Obj.cells #[.int .i64 77, .bool false, .int .i64 0, .int .i64 0, .string ⟨#[]⟩, .bool false, .bool false, .slice none 0 0] 26))).below (below1 _ (Obj.cells #[.int .i64 3, .bool false, .int .i64 a, .int .i64 0, .string ⟨#[]⟩, .bool false, .bool false, .slice none 0 0] 26))).below (below1 _ (Obj.cells #[.string ⟨#[99]⟩, .int .i64 k, .bool b, .int .i64 m, .int .i64 s, .string t, .slice ac lc cc] 48))).below (below1 _ (Obj.cells #[.int .i64 5, .bool false, .int .i64 0, .int .i64 0, .string ⟨#[99]⟩, .bool false, .bool false, .slice none 0 0] 26)))
    go_wp2_with fail
    refine (unhide EH1 _ _ _ (if_in (xC) (xA a) (xB) (in_leaf _ _ _ _ _ _ _) (in_leaf _ _ _ _ _ _ _) (in_leaf _ _ _ _ _ _ _) (eight_of (w := w) (by go_simp; rfl) (by go_simp; rfl) (by go_simp; rfl) (by go_simp; rfl) (by go_simp; rfl) (by go_simp; rfl) (by go_simp; rfl) (by go_simp; rfl)) (eight_of (w := w) (by go_simp; rfl) (by go_simp; rfl) (by go_simp; rfl) (by go_simp; rfl) (by go_simp; rfl) (by go_simp; rfl) (by go_simp; rfl) (by go_simp; rfl)) (eight_of (w := w) (by go_simp; rfl) (by go_simp; rfl) (by go_simp; rfl) (by go_simp; rfl) (by go_simp; rfl) (by go_simp; rfl) (by go_simp; rfl) (by go_simp; rfl))) (FE.below (below1 _ (Obj.cells #[.int .i64 5, .bool false, .int .i64 0, .int .i64 0, .string ⟨#[99]⟩, .bool false, .bool false, .slice none 0 0, .int .i64 3, .bool false, .int .i64 a, .int .i64 0, .string ⟨#[]⟩, .bool false, .bool false, .slice none 0 0, .int .i64 77, .bool false, .int .i64 0, .int .i64 0, .string ⟨#[]⟩, .bool false, .bool false, .slice none 0 0] 26)))).mono ?_
    rintro e w2 ⟨⟨v, rfl, T1, rfl, hT1, hTl1, hTb1⟩, k2⟩
    have F0' := (F0.below (below1 _ (Obj.cells #[.int .i64 5, .bool false, .int .i64 0, .int .i64 0, .string ⟨#[99]⟩, .bool false, .bool false, .slice none 0 0, .int .i64 3, .bool false, .int .i64 a, .int .i64 0, .string ⟨#[]⟩, .bool false, .bool false, .slice none 0 0, .int .i64 77, .bool false, .int .i64 0, .int .i64 0, .string ⟨#[]⟩, .bool false, .bool false, .slice none 0 0] 26))).below k2
    have F1' := (F1.below (below1 _ (Obj.cells #[.int .i64 5, .bool false, .int .i64 0, .int .i64 0, .string ⟨#[99]⟩, .bool false, .bool false, .slice none 0 0, .int .i64 3, .bool false, .int .i64 a, .int .i64 0, .string ⟨#[]⟩, .bool false, .bool false, .slice none 0 0, .int .i64 77, .bool false, .int .i64 0, .int .i64 0, .string ⟨#[]⟩, .bool false, .bool false, .slice none 0 0] 26))).below k2
    have F3' := (F3.below (below1 _ (Obj.cells #[.int .i64 5, .bool false, .int .i64 0, .int .i64 0, .string ⟨#[99]⟩, .bool false, .bool false, .slice none 0 0, .int .i64 3, .bool false, .int .i64 a, .int .i64 0, .string ⟨#[]⟩, .bool false, .bool false, .slice none 0 0, .int .i64 77, .bool false, .int .i64 0, .int .i64 0, .string ⟨#[]⟩, .bool false, .bool false, .slice none 0 0] 26))).below k2
    have FE' := hide ((FE.below (below1 _ (Obj.cells #[.int .i64 5, .bool false, .int .i64 0, .int .i64 0, .string ⟨#[99]⟩, .bool false, .bool false, .slice none 0 0, .int .i64 3, .bool false, .int .i64 a, .int .i64 0, .string ⟨#[]⟩, .bool false, .bool false, .slice none 0 0, .int .i64 77, .bool false, .int .i64 0, .int .i64 0, .string ⟨#[]⟩, .bool false, .bool false, .slice none 0 0] 26))).below k2)
    have X3 := (X2.below (below1 _ (Obj.cells #[.int .i64 5, .bool false, .int .i64 0, .int .i64 0, .string ⟨#[99]⟩, .bool false, .bool false, .slice none 0 0, .int .i64 3, .bool false, .int .i64 a, .int .i64 0, .string ⟨#[]⟩, .bool false, .bool false, .slice none 0 0, .int .i64 77, .bool false, .int .i64 0, .int .i64 0, .string ⟨#[]⟩, .bool false, .bool false, .slice none 0 0] 26))).below k2
    have B3 := bstep (bstep B2 (below1 _ (Obj.cells #[.int .i64 5, .bool false, .int .i64 0, .int .i64 0, .string ⟨#[99]⟩, .bool false, .bool false, .slice none 0 0, .int .i64 3, .bool false, .int .i64 a, .int .i64 0, .string ⟨#[]⟩, .bool false, .bool false, .slice none 0 0, .int .i64 77, .bool false, .int .i64 0, .int .i64 0, .string ⟨#[]⟩, .bool false, .bool false, .slice none 0 0] 26))) k2
    have z2 : w1.heap.size + 5 ≤ w2.heap.size := by have := k2.size; simpa using this
    obtain ⟨ap, cp, kidp, rfl⟩ := num_form hT1 hTb1
    have HT1 := hide hT1
    clear k2 F0 F1 F3 FE X1 X2 B1 B2 EH1 hT1 hTl1 hTb1 x0 x1 x2 x3 x4 x5 x6
    have e1 : (w1.alloc (Obj.cells #[.int .i64 77, .bool false, .int .i64 0, .int .i64 0, .string ⟨#[]⟩, .bool false, .bool false, .slice none 0 0] 26)).heap.size = w1.heap.size + 1 := by simp
    have e3 : (((w1.alloc (Obj.cells #[.int .i64 77, .bool false, .int .i64 0, .int .i64 0, .string ⟨#[]⟩, .bool false, .bool false, .slice none 0 0] 26)).alloc (Obj.cells #[.int .i64 3, .bool false, .int .i64 a, .int .i64 0, .string ⟨#[]⟩, .bool false, .bool false, .slice none 0 0] 26)).alloc (Obj.cells #[.string ⟨#[99]⟩, .int .i64 k, .bool b, .int .i64 m, .int .i64 s, .string t, .slice ac lc cc] 48)).heap.size = w1.heap.size + 1 + 1 + 1 := by simp
    rw [e1] at F1'
    rw [e3] at F3'
    clear e1 e3
    obtain ⟨p0, p1, p2, p3, p4, p5, p6, p7, p8⟩ := F0'
    obtain ⟨q0, q1, q2, q3, q4, q5, q6, q7, q8⟩ := F1'
    obtain ⟨r0, r1, r2, r3, r4, r5, r6, r7, r8⟩ := F3'
    obtain ⟨x0, x1, x2, x3, x4, x5, x6⟩ := id X3
    simp only [Nat.zero_add] at x1 x2 x3 x4 x5 x6 p1 p2 p3 p4 p5 p6 p7 p8 q1 q2 q3 q4 q5 q6 q7 q8 r1 r2 r3 r4 r5 r6 r7 r8
    dsimp only [VT.val]
    go_wp2_with fail
    have G0 := (six_new w2 2 false a 0 ⟨#[]⟩ ap 0 cp).below (below1 _ (Obj.cells #[.int .i64 5, .bool false, .int .i64 0, .int .i64 0, .string ⟨#[99]⟩, .bool false, .bool false, .slice none 0 0, .int .i64 77, .bool false, .int .i64 0, .int .i64 0, .string ⟨#[]⟩, .bool false, .bool false, .slice none 0 0, .int .i64 3, .bool false, .int .i64 a, .int .i64 0, .string ⟨#[]⟩, .bool false, .bool false, .slice none 0 0] 26))
    refine (unhide EH2 _ _ _ (if_in (xC) (xB) (xA a) (in_leaf _ _ _ _ _ _ _) (in_leaf _ _ _ _ _ _ _) (in_leaf _ _ _ _ _ _ _) (eight_of (w := w) (by go_simp; rfl) (by go_simp; rfl) (by go_simp; rfl) (by go_simp; rfl) (by go_simp; rfl) (by go_simp; rfl) (by go_simp; rfl) (by go_simp; rfl)) (eight_of (w := w) (by go_simp; rfl) (by go_simp; rfl) (by go_simp; rfl) (by go_simp; rfl) (by go_simp; rfl) (by go_simp; rfl) (by go_simp; rfl) (by go_simp; rfl)) (eight_of (w := w) (by go_simp; rfl) (by go_simp; rfl) (by go_simp; rfl) (by go_simp; rfl) (by go_simp; rfl) (by go_simp; rfl) (by go_simp; rfl) (by go_simp; rfl))) (((unhide FE').below (below1 _ (Obj.cells #[.int .i64 2, .bool false, .int .i64 a, .int .i64 0, .string ⟨#[]⟩, .slice ap 0 cp] 32))).below (below1 _ (Obj.cells #[.int .i64 5, .bool false, .int .i64 0, .int .i64 0, .string ⟨#[99]⟩, .bool false, .bool false, .slice none 0 0, .int .i64 77, .bool false, .int .i64 0, .int .i64 0, .string ⟨#[]⟩, .bool false, .bool false, .slice none 0 0, .int .i64 3, .bool false, .int .i64 a, .int .i64 0, .string ⟨#[]⟩, .bool false, .bool false, .slice none 0 0] 26)))).mono ?_
    rintro e w3 ⟨⟨v, rfl, T2, rfl, hT2, hTl2, hTb2⟩, k3⟩
    have G1 := G0.below k3
    have X4 := ((X3.below (below1 _ (Obj.cells #[.int .i64 2, .bool false, .int .i64 a, .int .i64 0, .string ⟨#[]⟩, .slice ap 0 cp] 32))).below (below1 _ (Obj.cells #[.int .i64 5, .bool false, .int .i64 0, .int .i64 0, .string ⟨#[99]⟩, .bool false, .bool false, .slice none 0 0, .int .i64 77, .bool false, .int .i64 0, .int .i64 0, .string ⟨#[]⟩, .bool false, .bool false, .slice none 0 0, .int .i64 3, .bool false, .int .i64 a, .int .i64 0, .string ⟨#[]⟩, .bool false, .bool false, .slice none 0 0] 26))).below k3
    have B4 := bstep (bstep (bstep B3 (below1 _ (Obj.cells #[.int .i64 2, .bool false, .int .i64 a, .int .i64 0, .string ⟨#[]⟩, .slice ap 0 cp] 32))) (below1 _ (Obj.cells #[.int .i64 5, .bool false, .int .i64 0, .int .i64 0, .string ⟨#[99]⟩, .bool false, .bool false, .slice none 0 0, .int .i64 77, .bool false, .int .i64 0, .int .i64 0, .string ⟨#[]⟩, .bool false, .bool false, .slice none 0 0, .int .i64 3, .bool false, .int .i64 a, .int .i64 0, .string ⟨#[]⟩, .bool false, .bool false, .slice none 0 0] 26))) k3
    have z3 : w2.heap.size + 2 ≤ w3.heap.size := by have := k3.size; simpa using this
    obtain ⟨kq, bq, mq, sq, tq, aq, lq, cq, kidq, rfl⟩ := hT2.form
    have HT2 := hide hT2
    clear k3 EH2 hT2 hTl2 hTb2 FE' G0 X3 B3 x0 x1 x2 x3 x4 x5 x6 p0 p1 p2 p3 p4 p5 p6 p7 p8 q0 q1 q2 q3 q4 q5 q6 q7 q8 r0 r1 r2 r3 r4 r5 r6 r7 r8
    obtain ⟨x0, x1, x2, x3, x4, x5, x6⟩ := id X4
    simp only [Nat.zero_add] at x1 x2 x3 x4 x5 x6
    dsimp only [VT.val]
    go_wp2_with fail
    refine (rtruth_any _ _ _ _ _ _ _ _ _).mono ?_
    rintro e w4 ⟨rfl, k4⟩
    rw [unhide HTR]
    have G2 := (G1.below (below1 _ (Obj.cells #[.int .i64 kq, .bool bq, .int .i64 mq, .int .i64 sq, .string tq, .slice aq lq cq] 32))).below k4
    have B5 := bstep (bstep B4 (below1 _ (Obj.cells #[.int .i64 kq, .bool bq, .int .i64 mq, .int .i64 sq, .string tq, .slice aq lq cq] 32))) k4
    clear k4 G1 X4 B4 x0 x1 x2 x3 x4 x5 x6
    generalize w2.heap.size = G at *
    obtain ⟨y0, y1, y2, y3, y4, y5, y6⟩ := G2
    simp only [Nat.zero_add] at y1 y2 y3 y4 y5 y6
    go_wp2_with fail
    have S0 : Hid (Below w4.heap.size w4 w4.drew ∧ w4.drew.cell? ⟨G, 0, none⟩ = some (.int .i64 2) ∧ w4.drew.cell? ⟨G, 1, none⟩ = some (.bool false) ∧ w4.drew.cell? ⟨G, 2, none⟩ = some (.int .i64 a) ∧ w4.drew.cell? ⟨G, 3, none⟩ = some (.int .i64 0) ∧ w4.drew.cell? ⟨G, 4, none⟩ = some (.string ⟨#[]⟩) ∧ w4.drew.cell? ⟨G, 5, none⟩ = some (.slice ap 0 cp)) := ⟨(Below.refl _ _).drew, y1, y2, y3, y4, y5, y6⟩
    have SK : Hid (∀ x w', (Below w4.heap.size w4 x ∧ x.cell? ⟨G, 0, none⟩ = some (.int .i64 2) ∧ x.cell? ⟨G, 1, none⟩ = some (.bool false) ∧ x.cell? ⟨G, 2, none⟩ = some (.int .i64 a) ∧ x.cell? ⟨G, 3, none⟩ = some (.int .i64 0) ∧ x.cell? ⟨G, 4, none⟩ = some (.string ⟨#[]⟩) ∧ x.cell? ⟨G, 5, none⟩ = some (.slice ap 0 cp)) → Below x.heap.size x w' → (Below w4.heap.size w4 w' ∧ w'.cell? ⟨G, 0, none⟩ = some (.int .i64 2) ∧ w'.cell? ⟨G, 1, none⟩ = some (.bool false) ∧ w'.cell? ⟨G, 2, none⟩ = some (.int .i64 a) ∧ w'.cell? ⟨G, 3, none⟩ = some (.int .i64 0) ∧ w'.cell? ⟨G, 4, none⟩ = some (.string ⟨#[]⟩) ∧ w'.cell? ⟨G, 5, none⟩ = some (.slice ap 0 cp))) := by
      rintro x w' ⟨h0, h1, h2, h3, h4, h5, h6⟩ kk
      have zz := h0.size
      exact ⟨bstep h0 kk, kcell kk (by omega) h1, kcell kk (by omega) h2, kcell kk (by omega) h3, kcell kk (by omega) h4, kcell kk (by omega) h5, kcell kk (by omega) h6⟩
    go_region_held3 (fun w' => Below w4.heap.size w4 w' ∧ w'.cell? ⟨G, 0, none⟩ = some (.int .i64 2) ∧ w'.cell? ⟨G, 1, none⟩ = some (.bool false) ∧ w'.cell? ⟨G, 2, none⟩ = some (.int .i64 a) ∧ w'.cell? ⟨G, 3, none⟩ = some (.int .i64 0) ∧ w'.cell? ⟨G, 4, none⟩ = some (.string ⟨#[]⟩) ∧ w'.cell? ⟨G, 5, none⟩ = some (.slice ap 0 cp))
      (first | exact unhide S0 | assumption | exact unhide SK _ _ (by assumption) k4 | exact unhide SK _ _ (by assumption) (below1 _ _) | exact unhide SK _ _ (by assumption) (by (repeat (first | with_reducible assumption | with_reducible exact Below.refl _ _ | (with_reducible refine Below.setCell ?_ ?_ _; rotate_left; (focus (first | omega | (simp; done) | (simp; omega) | (dsimp only; omega)))) | (with_reducible refine Below.alloc ?_ ?_ _; rotate_left; (focus (first | omega | (simp; done) | (simp; omega) | (dsimp only; omega)))) | with_reducible refine Below.drew ?_ | with_reducible refine below_dN ?_ _))))
      (first
        | (go_at_call 20; refine (lnum_any _ _).mono ?_; unfold lfv; rintro e w5 ⟨rfl, k4⟩)
        | (go_at_call 13; refine (slf_same 2 false a 0 ⟨#[]⟩ ap cp kidp (unhide HT1) _).mono ?_; rintro e w5 ⟨rfl, k4⟩)
        | (go_at_call 15; refine (eknown_any _).mono ?_; rintro e w5 ⟨rfl, k4⟩))
    all_goals
      go_wp2_with fail
      go_ret
      exact ⟨rfl, bstep B5 (And.left (by assumption))⟩

set_option maxHeartbeats 8000000 in
set_option maxRecDepth 10000 in
theorem evalIfs_out (k : Int) (b : Bool) (m s : Int) (t : ByteArray) (ac : Option Addr) (lc cc : Nat) (kid : Nat → VT) (a a2 : Int) (w : World) (hc : (VT.mk k b m s t ac lc cc kid).In w) (h : 20 < lc ∨ (VT.mk k b m s t ac lc cc kid).okB 2 = false ∨ a < 0 ∨ 1000 < a ∨ a2 < 0 ∨ 1000 < a2) :
    Calls Tryz.prog 6 #[.agg #[.int .i64 k, .bool b, .int .i64 m, .int .i64 s, .string t, .slice ac lc cc], .int .i64 a, .int .i64 a2] w fun e w' => e = .returned (.bool true) ∧ Below w.heap.size w w' := by
  have b0 := below1 w (Obj.cells #[.int .i64 k, .bool b, .int .i64 m, .int .i64 s, .string t, .slice ac lc cc] 32)
  have IS := hide (rIs_any (VT.mk k b m s t ac lc cc kid) _ (hc.below b0))
  clear hc
  go_enter Tryz.func6, Tryz.ntmps6
  by_cases hl : 20 < (lc : Int)
  · go_wp2_with fail
    go_ret
    exact ⟨rfl, b0⟩
  have h := h.resolve_left (by omega)
  cases hok : (VT.mk k b m s t ac lc cc kid).okB 2
  · rw [hok] at IS
    clear h hok
    go_wp2_with fail
    refine (unhide IS).mono ?_
    rintro e w1 ⟨rfl, k1⟩
    go_wp2_with fail
    go_ret
    exact ⟨rfl, bstep b0 k1⟩
  rw [hok] at IS h
  have h := h.resolve_left (by simp)
  clear hok
  go_wp2_with fail
  refine (unhide IS).mono ?_
  rintro e w1 ⟨rfl, k1⟩
  have B1 := bstep b0 k1
  by_cases h0 : a < 0
  · clear h
    go_wp2_with fail
    go_ret
    exact ⟨rfl, B1⟩
  have h := h.resolve_left h0
  by_cases h1 : 1000 < a
  · clear h
    go_wp2_with fail
    go_ret
    exact ⟨rfl, B1⟩
  have h := h.resolve_left h1
  by_cases h2 : a2 < 0
  · clear h
    go_wp2_with fail
    go_ret
    exact ⟨rfl, B1⟩
  have h := h.resolve_left h2
  go_wp2_with fail
  go_ret
  exact ⟨rfl, B1⟩
theorem evalIfs_walk (T : VT) (a a2 : Int) (_ : (Lit.int .i64 a).wf = true) (_ : (Lit.int .i64 a2).wf = true) (w : World) (hin : T.In w) :
    Calls Tryz.prog 6 #[T.val, .int .i64 a, .int .i64 a2] w fun e w' => e = .returned (.bool true) ∧ Below w.heap.size w w' := by
  obtain ⟨k, b, m, s, t, ac, lc, cc, kid, rfl⟩ := hin.form
  by_cases h : 20 < lc ∨ (VT.mk k b m s t ac lc cc kid).okB 2 = false ∨ a < 0 ∨ 1000 < a ∨ a2 < 0 ∨ 1000 < a2
  · exact evalIfs_out k b m s t ac lc cc kid a a2 w hin h
  · simp only [not_or] at h
    obtain ⟨h1, h2, h3, h4, h5, h6⟩ := h
    exact evalIfs_in k b m s t ac lc cc kid a a2 w hin (by simpa using h2) h1 (by omega) (by omega) (by omega) (by omega)
end Go.Proofs.YtheoalmnbkjpjaaGreat

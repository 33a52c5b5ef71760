/- The walk of ShowOdd: what has too few kids, or is of no kind, is told so, and nothing else of it. -/
import Derived.Test.YtejnmkhdnhggcaaDoorSAP
import Derived.Test.YtejnmkhdnhggcaaDoorSAH
namespace Go.Proofs.YtejnmkhdnhggcaaDoor
open Go.RowKit
set_option linter.unusedVariables false
set_option linter.unusedSimpArgs false

def nulX : XT := .mk 1 false 0 0 ⟨#[]⟩ false false Option.none 0 0 (fun _ => .none)
def oddX (k : Int) (a : Option Addr) (n c : Nat) : XT := .mk k false 0 0 ⟨#[43]⟩ false false a n c (fun i => (List.replicate n nulX).getD i .none)
def kidsR (k : Int) : Int := if k = 1 ∨ k = 2 ∨ k = 3 ∨ k = 4 ∨ k = 5 then 0 else if k = 7 then 1 else if k = 6 then 2 else if k = 8 ∨ k = 11 then 3 else if k = 9 ∨ k = 10 then -1 else -2
def oddR (k : Int) (n : Nat) : Prop := kidsR k = -2 ∨ (0 < kidsR k ∧ kidsR k ≠ n)
theorem bou_head (c : UInt8) (r : List UInt8) (L : List (List UInt8)) (f : Nat → List UInt8) : ∀ n, ∃ q, bouL ((c :: r) :: L) f n = c :: q := by
  intro n
  induction n with
  | zero => exact ⟨r, rfl⟩
  | succ n ih =>
    obtain ⟨q, hq⟩ := ih
    unfold bouL
    rw [hq]
    exact ⟨_, rfl⟩
theorem bou_odd (c : UInt8) (hc : c ≠ 63) (r : List UInt8) (L : List (List UInt8)) (f : Nat → List UInt8) (n : Nat) : (if ((c :: r) :: L).length = n + 1 then bouL ((c :: r) :: L) f n else [63]) = [63] ↔ ¬ L.length = n := by
  obtain ⟨q, hq⟩ := bou_head c r L f n
  rw [hq]
  by_cases h : L.length = n
  · rw [if_pos (by simp [h])]
    simp [h, hc]
  · rw [if_neg (by simp [h])]
    simp [h]
theorem odd_show (k : Int) (a : Option Addr) (n c : Nat) : showX (oddX k a n c) = [63] ↔ oddR k n := by
  unfold oddX
  have SH : showX (.mk k false 0 0 ⟨#[43]⟩ false false a n c (fun i => (List.replicate n nulX).getD i .none)) = (if k = 1 then nulL else if k = 2 then truL false else if k = 3 then numL 0 0 else if k = 4 then quoL ⟨#[43]⟩ else if k = 5 then XT.tl ⟨#[43]⟩
      else if k = 9 then [91] ++ (rowL (fun i => showX ((List.replicate n nulX).getD i .none)) n ++ [93]) else if k = 10 then XT.tl ⟨#[43]⟩ ++ ([40] ++ (rowL (fun i => showX ((List.replicate n nulX).getD i .none)) n ++ [41])) else if (aroL k ⟨#[43]⟩ false false).length = n + 1 then bouL (aroL k ⟨#[43]⟩ false false) (fun i => showX ((List.replicate n nulX).getD i .none)) n else [63]) := by
    conv => lhs; unfold showX
  rw [SH]
  generalize (fun i => showX ((List.replicate n nulX).getD i .none)) = f at *
  clear SH
  unfold oddR kidsR
  by_cases k1 : k = 1
  · subst k1; simp [nulL]
  by_cases k2 : k = 2
  · subst k2; simp [truL]
  by_cases k3 : k = 3
  · subst k3
    have : numL 0 0 ≠ [63] := by decide +kernel
    simp [this]
  by_cases k4 : k = 4
  · subst k4; simp [quoL, XT.tl]
  by_cases k5 : k = 5
  · subst k5; simp [XT.tl]
  by_cases k9 : k = 9
  · subst k9; simp
  by_cases k10 : k = 10
  · subst k10; simp [XT.tl]
  simp only [k1, k2, k3, k4, k5, k9, k10, if_false, or_false, false_or]
  by_cases k6 : k = 6
  · subst k6
    have e : aroL 6 ⟨#[43]⟩ false false = (40 :: []) :: [[32] ++ (XT.tl ⟨#[43]⟩ ++ [32]), [41]] := by simp [aroL]
    rw [e, bou_odd 40 (by decide)]
    simp
    omega
  by_cases k7 : k = 7
  · subst k7
    have e : aroL 7 ⟨#[43]⟩ false false = (40 :: [45]) :: [[41]] := by simp [aroL]
    rw [e, bou_odd 40 (by decide)]
    simp
    omega
  by_cases k8 : k = 8
  · subst k8
    have e : aroL 8 ⟨#[43]⟩ false false = (40 :: [105, 102, 32]) :: [[32, 116, 104, 101, 110, 32], [32, 101, 108, 115, 101, 32], [41]] := by simp [aroL]
    rw [e, bou_odd 40 (by decide)]
    simp
    omega
  by_cases k11 : k = 11
  · subst k11
    have e : aroL 11 ⟨#[43]⟩ false false = (40 :: []) :: [[32, 105, 110, 32] ++ [40], [46, 46], [41] ++ [41]] := by simp [aroL]
    rw [e, bou_odd 40 (by decide)]
    simp
    omega
  have e : aroL k ⟨#[43]⟩ false false = [] := by simp [aroL, k6, k7, k8, k11]
  rw [e]
  simp [k6, k7, k8, k11]
theorem nul_in (Q : Nat → Prop) (w : World) : nulX.In Q w := ⟨Nat.zero_le _, fun i hi => absurd hi (Nat.not_lt_zero _)⟩
theorem nul_ok : okS nulX := ⟨by decide, by decide, by decide, fun i hi => absurd hi (Nat.not_lt_zero _)⟩
theorem odd_ok (k : Int) (a : Option Addr) (n c : Nat) (hn : n ≤ 4) : okS (oddX k a n c) := by
  refine ⟨by decide, by decide, by omega, fun i hi => ?_⟩
  dsimp only
  rw [List.getD_eq_getElem?_getD, List.getElem?_replicate, if_pos hi]
  exact nul_ok
theorem row_bd (f : Nat → List UInt8) (hf : ∀ i, (f i).length ≤ 10) : ∀ n, (rowL f n).length ≤ 12 * n := by
  intro n
  induction n with
  | zero => simp [rowL]
  | succ n ih =>
    have h1 := hf n
    have h2 : (if n = 0 then ([] : List UInt8) else [44, 32]).length ≤ 2 := by split <;> simp
    unfold rowL
    simp only [List.length_append]
    omega
theorem bou_bd (L : List (List UInt8)) (f : Nat → List UInt8) (hf : ∀ i, (f i).length ≤ 10) (hL : ∀ i, (L.getD i []).length ≤ 10) : ∀ n, (bouL L f n).length ≤ 20 * n + 10 := by
  intro n
  induction n with
  | zero => have := hL 0; simpa [bouL] using this
  | succ n ih =>
    have h1 := hf n
    have h2 := hL (n + 1)
    unfold bouL
    simp only [List.length_append]
    omega
theorem kids_any (k : Int) (w : World) : Calls Tryd.prog 13 #[.int .i64 k] w fun e w' => e = .returned (.int .i64 (kidsR k)) ∧ w' = w := by
  generalize hr : kidsR k = r
  by_cases k1 : k = 1
  · subst k1
    obtain rfl : r = 0 := by rw [← hr]; rfl
    go_enter Tryd.func13, Tryd.ntmps13
    go_wp2_with fail
    go_ret
    exact ⟨rfl, rfl⟩
  have k1' : (k == 1) = false := by simp [k1]
  by_cases k2 : k = 2
  · subst k2
    obtain rfl : r = 0 := by rw [← hr]; rfl
    go_enter Tryd.func13, Tryd.ntmps13
    go_wp2_with fail
    go_ret
    exact ⟨rfl, rfl⟩
  have k2' : (k == 2) = false := by simp [k2]
  by_cases k3 : k = 3
  · subst k3
    obtain rfl : r = 0 := by rw [← hr]; rfl
    go_enter Tryd.func13, Tryd.ntmps13
    go_wp2_with fail
    go_ret
    exact ⟨rfl, rfl⟩
  have k3' : (k == 3) = false := by simp [k3]
  by_cases k4 : k = 4
  · subst k4
    obtain rfl : r = 0 := by rw [← hr]; rfl
    go_enter Tryd.func13, Tryd.ntmps13
    go_wp2_with fail
    go_ret
    exact ⟨rfl, rfl⟩
  have k4' : (k == 4) = false := by simp [k4]
  by_cases k5 : k = 5
  · subst k5
    obtain rfl : r = 0 := by rw [← hr]; rfl
    go_enter Tryd.func13, Tryd.ntmps13
    go_wp2_with fail
    go_ret
    exact ⟨rfl, rfl⟩
  have k5' : (k == 5) = false := by simp [k5]
  by_cases k7 : k = 7
  · subst k7
    obtain rfl : r = 1 := by rw [← hr]; rfl
    go_enter Tryd.func13, Tryd.ntmps13
    go_wp2_with fail
    go_ret
    exact ⟨rfl, rfl⟩
  have k7' : (k == 7) = false := by simp [k7]
  by_cases k6 : k = 6
  · subst k6
    obtain rfl : r = 2 := by rw [← hr]; rfl
    go_enter Tryd.func13, Tryd.ntmps13
    go_wp2_with fail
    go_ret
    exact ⟨rfl, rfl⟩
  have k6' : (k == 6) = false := by simp [k6]
  by_cases k8 : k = 8
  · subst k8
    obtain rfl : r = 3 := by rw [← hr]; rfl
    go_enter Tryd.func13, Tryd.ntmps13
    go_wp2_with fail
    go_ret
    exact ⟨rfl, rfl⟩
  have k8' : (k == 8) = false := by simp [k8]
  by_cases k11 : k = 11
  · subst k11
    obtain rfl : r = 3 := by rw [← hr]; rfl
    go_enter Tryd.func13, Tryd.ntmps13
    go_wp2_with fail
    go_ret
    exact ⟨rfl, rfl⟩
  have k11' : (k == 11) = false := by simp [k11]
  by_cases k9 : k = 9
  · subst k9
    obtain rfl : r = -1 := by rw [← hr]; rfl
    go_enter Tryd.func13, Tryd.ntmps13
    go_wp2_with fail
    go_ret
    exact ⟨rfl, rfl⟩
  have k9' : (k == 9) = false := by simp [k9]
  by_cases k10 : k = 10
  · subst k10
    obtain rfl : r = -1 := by rw [← hr]; rfl
    go_enter Tryd.func13, Tryd.ntmps13
    go_wp2_with fail
    go_ret
    exact ⟨rfl, rfl⟩
  have k10' : (k == 10) = false := by simp [k10]
  obtain rfl : r = -2 := by rw [← hr]; simp [kidsR, k1, k2, k3, k4, k5, k6, k7, k8, k9, k10, k11]
  clear hr
  go_enter Tryd.func13, Tryd.ntmps13
  go_wp2_with fail
  go_ret
  exact ⟨rfl, rfl⟩
theorem odd_len (k : Int) (a : Option Addr) (n c : Nat) (hn : n ≤ 4) : (showX (oddX k a n c)).length ≤ 1000 := by
  unfold oddX
  have SH : showX (.mk k false 0 0 ⟨#[43]⟩ false false a n c (fun i => (List.replicate n nulX).getD i .none)) = (if k = 1 then nulL else if k = 2 then truL false else if k = 3 then numL 0 0 else if k = 4 then quoL ⟨#[43]⟩ else if k = 5 then XT.tl ⟨#[43]⟩
      else if k = 9 then [91] ++ (rowL (fun i => showX ((List.replicate n nulX).getD i .none)) n ++ [93]) else if k = 10 then XT.tl ⟨#[43]⟩ ++ ([40] ++ (rowL (fun i => showX ((List.replicate n nulX).getD i .none)) n ++ [41])) else if (aroL k ⟨#[43]⟩ false false).length = n + 1 then bouL (aroL k ⟨#[43]⟩ false false) (fun i => showX ((List.replicate n nulX).getD i .none)) n else [63]) := by
    conv => lhs; unfold showX
  rw [SH]
  have hf : ∀ i, ((fun i => showX ((List.replicate n nulX).getD i .none)) i).length ≤ 10 := fun i => by
    dsimp only
    rw [List.getD_eq_getElem?_getD, List.getElem?_replicate]
    split
    · have : (showX nulX).length = 4 := by decide
      simp only [Option.getD_some]
      omega
    · simp [showX]
  have h1 := row_bd _ hf n
  have hL : ∀ i, ((aroL k ⟨#[43]⟩ false false).getD i []).length ≤ 10 := fun i => by
    unfold aroL
    split
    · match i with
      | 0 => decide
      | 1 => decide
      | 2 => decide
      | i + 3 => simp
    split
    · match i with
      | 0 => decide
      | 1 => decide
      | i + 2 => simp
    split
    · match i with
      | 0 => decide
      | 1 => decide
      | 2 => decide
      | 3 => decide
      | i + 4 => simp
    split
    · match i with
      | 0 => decide
      | 1 => decide
      | 2 => decide
      | 3 => decide
      | i + 4 => simp
    · simp
  have h2 := bou_bd _ _ hf hL n
  generalize (fun i => showX ((List.replicate n nulX).getD i .none)) = f at *
  have h3 : (numL 0 0).length ≤ 10 := by decide +kernel
  split
  · decide
  split
  · decide
  split
  · omega
  split
  · decide
  split
  · decide
  split
  · simp only [List.length_append, List.length_cons, List.length_nil]; omega
  split
  · have : (XT.tl ⟨#[43]⟩).length = 1 := rfl
    simp only [List.length_append, List.length_cons, List.length_nil]; omega
  split
  · omega
  · decide

set_option maxHeartbeats 1500000 in
set_option maxRecDepth 10000 in
theorem showOdd_walk (k n0 : Int) (_ : (Lit.int .i64 k).wf = true) (_ : (Lit.int .i64 n0).wf = true) (w : World) (ht : Tab w) :
    Calls Tryd.prog 4 #[.int .i64 k, .int .i64 n0] w fun e w' => e = .returned (.bool true) ∧ Below w.heap.size w w' := by
  by_cases g1 : n0 < 0
  · clear ht
    go_enter Tryd.func4, Tryd.ntmps4
    go_wp2_with fail
    go_ret
    exact ⟨rfl, Below.refl _ _⟩
  by_cases g2 : 4 < n0
  · clear ht
    go_enter Tryd.func4, Tryd.ntmps4
    go_wp2_with fail
    go_ret
    exact ⟨rfl, Below.refl _ _⟩
  obtain ⟨n, rfl⟩ : ∃ n : Nat, n0 = n := ⟨n0.toNat, by omega⟩
  have hn4 : n ≤ 4 := by omega
  have KA := hide (fun w' => kids_any k w')
  have KN := hide (fun w' (q : Below w.heap.size w w') => sknown_any w' (tab_below ht q))
  have SX := hide (fun (a : Option Addr) (c : Nat) w' (q : Below w.heap.size w w') (hin : (oddX k a n c).In (Fr (w.heap.size + 1)) w') => showx_any (oddX k a n c) _ w' hin (odd_ok k a n c hn4) (tab_below ht q) (by have := odd_len k a n c hn4; omega))
  have OS := hide (fun a c => odd_show k a n c)
  clear ht
  have b0 := below1 w (Obj.cells #[.int .i64 k, .bool false, .int .i64 0, .int .i64 0, .string ⟨#[43]⟩, .bool false, .bool false, .slice none 0 0] 26)
  have HN := Deep.blk_alloc_new w (Obj.cells #[.int .i64 k, .bool false, .int .i64 0, .int .i64 0, .string ⟨#[43]⟩, .bool false, .bool false, .slice none 0 0] 26)
  have hz : (w.alloc (Obj.cells #[.int .i64 k, .bool false, .int .i64 0, .int .i64 0, .string ⟨#[43]⟩, .bool false, .bool false, .slice none 0 0] 26)).heap.size = w.heap.size + 1 := by simp
  go_enter Tryd.func4, Tryd.ntmps4
  go_wp2_with fail
  generalize w.alloc (Obj.cells #[.int .i64 k, .bool false, .int .i64 0, .int .i64 0, .string ⟨#[43]⟩, .bool false, .bool false, .slice none 0 0] 26) = W0 at *
  go_loopw [6] (fun i wr => ∃ (j : Nat) (v : Value), j ≤ n ∧ i = .int .i64 j ∧ Kids (w.heap.size + 1) wr v (List.replicate j nulX) ∧ wr.heap[w.heap.size]? = some (.cells #[.int .i64 k, .bool false, .int .i64 0, .int .i64 0, .string ⟨#[43]⟩, .bool false, .bool false, v] 26 (0, 0)) ∧ Below w.heap.size w wr) (fun i _ => n - (intOf i).toNat)
  case atStart => exact ⟨0, _, Nat.zero_le _, rfl, Kids.nil _ _, HN, b0⟩
  case round =>
    obtain ⟨j, v, hj, rfl, own, hN, bel⟩ := hrel
    have hNs : w.heap.size < wr.heap.size := (Array.getElem?_eq_some_iff.1 hN).1
    obtain ⟨ka, kc, hv⟩ := own.form
    rw [List.length_replicate] at hv
    subst hv
    by_cases hlt : j < n
    · have x7 : wr.cell? ⟨w.heap.size, 7, none⟩ = some (.slice ka j kc) := by rw [Lib.cell_of_heap hN]; rfl
      have b1 := below1 wr (Obj.cells #[.int .i64 1, .bool false, .int .i64 0, .int .i64 0, .string ⟨#[]⟩, .bool false, .bool false, .slice none 0 0] 26)
      have own1 := own.below b1
      have hN1 := (b1.block _ hNs).trans hN
      have xb : XB (wr.alloc (Obj.cells #[.int .i64 1, .bool false, .int .i64 0, .int .i64 0, .string ⟨#[]⟩, .bool false, .bool false, .slice none 0 0] 26)) wr.heap.size 1 false 0 0 ⟨#[]⟩ false false none 0 0 := ⟨by simp, by go_simp, by go_simp, by go_simp, by go_simp, by go_simp, by go_simp, by go_simp, by go_simp, by go_simp⟩
      have hs1 : w.heap.size + 1 ≤ (wr.alloc (Obj.cells #[.int .i64 1, .bool false, .int .i64 0, .int .i64 0, .string ⟨#[]⟩, .bool false, .bool false, .slice none 0 0] 26)).heap.size := by simp; omega
      have bel1 := bstep bel b1
      go_wp2_with (at_builtin; go_must (refine wpList_x rfl _ _ rfl (w.heap.size + 1) _ (List.replicate j nulX) rfl own1 wr.heap.size (xkid := fun _ => .none) (nul_in _ _) rfl xb (by simp; omega) hs1 ?_))
      intro v' w2 own2 gr
      have hN2 : w2.heap[w.heap.size]? = _ := (gr.block w.heap.size (by omega) (fun e => by
        have := (own1.lt _ e.symm).1
        omega)).trans hN1
      have bel2 := bel1.grown gr (by omega) (fun g hg => by have := (own1.lt g hg).1; omega)
      have own2 : Kids (w.heap.size + 1) w2 v' (List.replicate (j + 1) nulX) := by rw [List.replicate_succ']; exact own2
      obtain ⟨ka2, kc2, hv2⟩ := own2.form
      rw [List.length_replicate] at hv2
      subst hv2
      have f7 : w2.frozen? ⟨w.heap.size, 7, none⟩ = false := Lib.frozen_of_heap hN2 7
      have c7 : w2.cell? ⟨w.heap.size, 7, none⟩ = some (.slice ka j kc) := by rw [Lib.cell_of_heap hN2]; rfl
      have own3 : Kids (w.heap.size + 1) (w2.setCell ⟨w.heap.size, 7, none⟩ (.slice ka2 (j + 1) kc2)) (.slice ka2 (j + 1) kc2) (List.replicate (j + 1) nulX) := own2.by (fun g _ hg => Below.heap_setCell _ _ _ _ (by show g ≠ w.heap.size; omega))
      have hN3 : (w2.setCell ⟨w.heap.size, 7, none⟩ (.slice ka2 (j + 1) kc2)).heap[w.heap.size]? = some (.cells #[.int .i64 k, .bool false, .int .i64 0, .int .i64 0, .string ⟨#[43]⟩, .bool false, .bool false, .slice ka2 (j + 1) kc2] 26 (0, 0)) := by
        simp [World.setCell, Array.getElem?_modify, hN2]
      have bel3 : Below w.heap.size w (w2.setCell ⟨w.heap.size, 7, none⟩ (.slice ka2 (j + 1) kc2)) := bel2.setCell (Nat.le_refl _) _
      clear own own1 own2 hN hN1 hN2 bel bel1 bel2 gr xb b1 hs1 x7 KA KN SX OS
      go_wp2_with fail
      go_roundw
      case rel => exact ⟨j + 1, _, by omega, by go_num, own3, hN3, bel3⟩
      case measure => simp [intOf]; omega
    · obtain rfl : j = n := by omega
      have hin := (own.node (by simp; omega) rfl k false 0 0 ⟨#[43]⟩ false false).2
      have RUN := hide (unhide SX ka kc wr bel hin)
      have OSx := unhide OS ka kc
      have RUN : Hid (Calls Tryd.prog 8 #[.agg #[.int .i64 k, .bool false, .int .i64 0, .int .i64 0, .string ⟨#[43]⟩, .bool false, .bool false, .slice ka j kc]] wr fun e w' => e = .returned (.string ⟨(showX (oddX k ka j kc)).toArray⟩) ∧ Below wr.heap.size wr w') := RUN
      generalize showX (oddX k ka j kc) = R at *
      unfold oddR at OSx
      have x0 : wr.cell? ⟨w.heap.size, 0, none⟩ = some (.int .i64 k) := by rw [Lib.cell_of_heap hN]; rfl
      have x1 : wr.cell? ⟨w.heap.size, 1, none⟩ = some (.bool false) := by rw [Lib.cell_of_heap hN]; rfl
      have x2 : wr.cell? ⟨w.heap.size, 2, none⟩ = some (.int .i64 0) := by rw [Lib.cell_of_heap hN]; rfl
      have x3 : wr.cell? ⟨w.heap.size, 3, none⟩ = some (.int .i64 0) := by rw [Lib.cell_of_heap hN]; rfl
      have x4 : wr.cell? ⟨w.heap.size, 4, none⟩ = some (.string ⟨#[43]⟩) := by rw [Lib.cell_of_heap hN]; rfl
      have x5 : wr.cell? ⟨w.heap.size, 5, none⟩ = some (.bool false) := by rw [Lib.cell_of_heap hN]; rfl
      have x6 : wr.cell? ⟨w.heap.size, 6, none⟩ = some (.bool false) := by rw [Lib.cell_of_heap hN]; rfl
      have x7 : wr.cell? ⟨w.heap.size, 7, none⟩ = some (.slice ka j kc) := by rw [Lib.cell_of_heap hN]; rfl
      generalize kidsR k = r at *
      clear SX OS hin own hN
      have FIN : Hid (∀ w', Below wr.heap.size wr w' → Calls Tryd.prog 12 #[] w' fun e w'' => e = .returned (.bool true) ∧ Below w'.heap.size w' w'') := hide (fun w' q => unhide KN w' (bstep bel q))
      have KA := hide (unhide KA wr)
      clear KN
      by_cases c1 : r = -2
      · subst c1
        have hb : (R == [63]) = true := by simp; exact OSx.2 (.inl rfl)
        clear OSx
        go_wp2_with fail
        refine (unhide KA).mono ?_
        rintro e w5 ⟨rfl, rfl⟩
        go_wp2_with fail
        refine (unhide RUN).mono ?_
        rintro e w6 ⟨rfl, b6⟩
        go_wp2_with fail
        refine (unhide FIN _ b6).mono ?_
        rintro e w7 ⟨rfl, b7⟩
        go_wp2_with fail
        go_ret
        exact ⟨rfl, bstep (bstep bel b6) b7⟩
      have e1 : (r == -2) = false := by simp [c1]
      by_cases c2 : 0 < r
      · by_cases c3 : r = (j : Int)
        · have e3 : (r != (j : Int)) = false := by simp [c3]
          have hb : (R == [63]) = false := by
            simp only [beq_eq_false_iff_ne, ne_eq]
            intro h
            rcases OSx.1 h with h | h
            · exact c1 h
            · exact h.2 c3
          clear OSx c3
          go_wp2_with fail
          refine (unhide KA).mono ?_
          rintro e w5 ⟨rfl, rfl⟩
          go_wp2_with fail
          refine (unhide RUN).mono ?_
          rintro e w6 ⟨rfl, b6⟩
          go_wp2_with fail
          refine (unhide FIN _ b6).mono ?_
          rintro e w7 ⟨rfl, b7⟩
          go_wp2_with fail
          go_ret
          exact ⟨rfl, bstep (bstep bel b6) b7⟩
        · have e3 : (r != (j : Int)) = true := by simp [c3]
          have hb : (R == [63]) = true := by simp; exact OSx.2 (.inr ⟨c2, c3⟩)
          clear OSx
          go_wp2_with fail
          refine (unhide KA).mono ?_
          rintro e w5 ⟨rfl, rfl⟩
          go_wp2_with fail
          refine (unhide RUN).mono ?_
          rintro e w6 ⟨rfl, b6⟩
          go_wp2_with fail
          refine (unhide FIN _ b6).mono ?_
          rintro e w7 ⟨rfl, b7⟩
          go_wp2_with fail
          go_ret
          exact ⟨rfl, bstep (bstep bel b6) b7⟩
      · have hb : (R == [63]) = false := by
          simp only [beq_eq_false_iff_ne, ne_eq]
          intro h
          rcases OSx.1 h with h | h
          · exact c1 h
          · exact c2 h.1
        clear OSx
        go_wp2_with fail
        refine (unhide KA).mono ?_
        rintro e w5 ⟨rfl, rfl⟩
        go_wp2_with fail
        refine (unhide RUN).mono ?_
        rintro e w6 ⟨rfl, b6⟩
        go_wp2_with fail
        refine (unhide FIN _ b6).mono ?_
        rintro e w7 ⟨rfl, b7⟩
        go_wp2_with fail
        go_ret
        exact ⟨rfl, bstep (bstep bel b6) b7⟩
end Go.Proofs.YtejnmkhdnhggcaaDoor

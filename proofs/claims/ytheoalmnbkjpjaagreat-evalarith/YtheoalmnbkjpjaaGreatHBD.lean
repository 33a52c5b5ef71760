/- EvalArithM: laid together. -/
import Derived.Test.YtheoalmnbkjpjaaGreatHBC
/- What the texts of EvalArith are. (Printed by mkarith.py.) -/
namespace Go.Proofs.YtheoalmnbkjpjaaGreat
open Go.RowKit
open VT (leaf mkV)
set_option linter.unusedVariables false
set_option linter.unusedSimpArgs false

def opI (k : Nat) (a b : Int) : Int := if k = 0 then a + b else if k = 1 then a - b else a * b
def opC (k : Nat) : List UInt8 := if k = 0 then [43] else if k = 1 then [45] else [42]
theorem opI_bd {k : Nat} {a b : Int} (A B : Int) (hA : 0 ≤ A) (hB : 0 ≤ B) (a1 : -A ≤ a) (a2 : a ≤ A) (b1 : -B ≤ b) (b2 : b ≤ B) : -(A * B + A + B) ≤ opI k a b ∧ opI k a b ≤ A * B + A + B := by
  have hAB : 0 ≤ A * B := Int.mul_nonneg hA hB
  unfold opI
  split
  · omega
  split
  · omega
  · by_cases h : 0 ≤ b
    · have := mul_bd a b A B a1 a2 h b2 (by omega); omega
    · have := mul_bd a (-b) A B a1 a2 (by omega) (by omega) (by omega)
      rw [Int.mul_neg] at this; omega
theorem mul1e3 {a b : Int} (a1 : -1000 ≤ a) (a2 : a ≤ 1000) (b1 : -1000 ≤ b) (b2 : b ≤ 1000) : -1000000 ≤ a * b ∧ a * b ≤ 1000000 := by
  by_cases h : 0 ≤ b
  · have := mul_bd a b 1000 1000 a1 a2 h b2 (by omega); omega
  · have := mul_bd a (-b) 1000 1000 a1 a2 (by omega) (by omega) (by omega)
    rw [Int.mul_neg] at this; omega
theorem mul1e6 {a b : Int} (a1 : -1000000 ≤ a) (a2 : a ≤ 1000000) (b1 : -1000 ≤ b) (b2 : b ≤ 1000) : -1000000000 ≤ a * b ∧ a * b ≤ 1000000000 := by
  by_cases h : 0 ≤ b
  · have := mul_bd a b 1000000 1000 a1 a2 h b2 (by omega); omega
  · have := mul_bd a (-b) 1000000 1000 a1 a2 (by omega) (by omega) (by omega)
    rw [Int.mul_neg] at this; omega
theorem op_bin {k : Nat} {a b : Int} (h1 : -1000000000 ≤ opI k a b) (h2 : opI k a b ≤ 1000000000) : binT (opC k) (numV a 0) (numV b 0) = (numV (opI k a b) 0, 0) := by
  unfold opI opC at *
  split
  · rename_i h0
    rw [if_pos h0] at h1 h2
    exact (show binT [43] (numV a 0) (numV b 0) = addR a 0 b 0 from rfl).trans (add_whole h1 h2)
  rename_i h0
  rw [if_neg h0] at h1 h2
  split
  · rename_i h3
    rw [if_pos h3] at h1 h2
    exact (show binT [45] (numV a 0) (numV b 0) = subR a 0 b 0 from rfl).trans (sub_whole h1 h2)
  rename_i h3
  rw [if_neg h3] at h1 h2
  exact (show binT [42] (numV a 0) (numV b 0) = mulR a 0 b 0 from rfl).trans (mul_whole h1 h2)
def arE (a b c : Int) : List (List UInt8 × VT) := [([97], numV a 0), ([98], numV b 0), ([99], numV c 0)]
theorem ar_a (a b c : Int) : evT (arE a b c) (nameX [97]) = (numV a 0, 0) := ev_name _ _
theorem ar_b (a b c : Int) : evT (arE a b c) (nameX [98]) = (numV b 0, 0) := ev_name _ _
theorem ar_c (a b c : Int) : evT (arE a b c) (nameX [99]) = (numV c 0, 0) := ev_name _ _
theorem num_bareE (a : Int) : (numV a 0).bare = numV a 0 := by unfold numV leaf; rw [VT.bare_leaf]; rfl
theorem ar_env (a b c : Int) : envT [(⟨#[97]⟩, numV a 0), (⟨#[98]⟩, numV b 0), (⟨#[99]⟩, numV c 0)] = arE a b c := by
  unfold envT
  simp only [List.map_cons, List.map_nil, num_bareE]
  rfl
theorem bap_app (l l' : List UInt8) : (⟨l.toArray⟩ : ByteArray) ++ ⟨l'.toArray⟩ = ⟨(l ++ l').toArray⟩ := by
  apply ByteArray.ext
  simp
def CellIs (w : World) (g o : Nat) (v : Value) : Prop := w.cell? ⟨g, o, none⟩ = some v
theorem cellIs_mk {w : World} {g o : Nat} {v : Value} (h : w.cell? ⟨g, o, none⟩ = some v) : CellIs w g o v := h
theorem CellIs.below {w w' : World} {g o : Nat} {v : Value} (h : CellIs w g o v) (k : Below w.heap.size w w') : CellIs w' g o v := kcell k (World.block_lt_of_cell? _ _ h) h
theorem env3 {w : World} {g : Nat} (n1 n2 n3 : ByteArray) (x y z : VT) (hx : x.In w) (hy : y.In w) (hz : z.In w) (h0 : w.cell? ⟨g, 0, none⟩ = some (.string n1)) (h1 : ∀ j, j < 6 → w.cell? ⟨g, 1 + j, none⟩ = x.cells[j]?) (h2 : w.cell? ⟨g, 7, none⟩ = some (.string n2)) (h3 : ∀ j, j < 6 → w.cell? ⟨g, 8 + j, none⟩ = y.cells[j]?) (h4 : w.cell? ⟨g, 14, none⟩ = some (.string n3)) (h5 : ∀ j, j < 6 → w.cell? ⟨g, 15 + j, none⟩ = z.cells[j]?) :
    EnvIn w (some ⟨g, 0, none⟩) [(n1, x), (n2, y), (n3, z)] := by
  intro i hi
  match i, hi with
  | 0, _ => exact ⟨⟨g, 0, rfl, h0, fun j hj => by simpa using h1 j hj⟩, hx⟩
  | 1, _ => exact ⟨⟨g, 0, rfl, h2, fun j hj => by simpa using h3 j hj⟩, hy⟩
  | 2, _ => exact ⟨⟨g, 0, rfl, h4, fun j hj => by simpa using h5 j hj⟩, hz⟩
theorem six_of {f : Nat → Option Value} {l : List Value} (h0 : f 0 = l[0]?) (h1 : f 1 = l[1]?) (h2 : f 2 = l[2]?) (h3 : f 3 = l[3]?) (h4 : f 4 = l[4]?) (h5 : f 5 = l[5]?) : ∀ j, j < 6 → f j = l[j]? := by
  intro j hj
  match j, hj with
  | 0, _ => exact h0
  | 1, _ => exact h1
  | 2, _ => exact h2
  | 3, _ => exact h3
  | 4, _ => exact h4
  | 5, _ => exact h5
set_option maxHeartbeats 4000000 in
theorem op_any (k : Nat) (hk : k ≤ 2) (a b : Int) (h1 : -1000000000 ≤ a) (h2 : a ≤ 1000000000) (h3 : -1000000000 ≤ b) (h4 : b ≤ 1000000000) (w : World) :
    Calls Tryz.prog 22 #[.int .i64 a, .int .i64 b, .int .i64 k] w fun e w' => e = .returned (.int .i64 (opI k a b)) ∧ w' = w := by
  have hb : -1000000000000000000 ≤ a * b ∧ a * b ≤ 1000000000000000000 := by
    by_cases h : 0 ≤ b
    · have := mul_bd a b 1000000000 1000000000 h1 h2 h h4 (by omega); omega
    · have := mul_bd a (-b) 1000000000 1000000000 h1 h2 (by omega) (by omega) (by omega)
      rw [Int.mul_neg] at this; omega
  have hw : IntKind.i64.wrap (a * b) = a * b := i64_in (by omega) (by omega)
  match k, hk with
  | 0, _ =>
    go_enter Tryz.func22, Tryz.ntmps22
    go_wp2_with fail
    go_ret
    exact ⟨ret_int rfl, rfl⟩
  | 1, _ =>
    go_enter Tryz.func22, Tryz.ntmps22
    go_wp2_with fail
    go_ret
    exact ⟨ret_int rfl, rfl⟩
  | 2, _ =>
    go_enter Tryz.func22, Tryz.ntmps22
    go_wp2_with fail
    go_ret
    exact ⟨ret_int rfl, rfl⟩

def arL00 : List UInt8 := [97, 32, 43, 32, 98, 32, 43, 32, 99]
theorem ar_calc00 : (parseT arL00).2.2 = 0 ∧ smaX (parseT arL00).1 = true := by decide +kernel
theorem ar_x00 : (parseT arL00).1 = binX [43] (binX [43] (nameX [97]) (nameX [98])) (nameX [99]) := by kernel_rfl
theorem ar_ev00 (a b c : Int) (a1 : -1000 ≤ a) (a2 : a ≤ 1000) (b1 : -1000 ≤ b) (b2 : b ≤ 1000) (c1 : -1000 ≤ c) (c2 : c ≤ 1000) : evT (arE a b c) (parseT arL00).1 = (numV (opI 0 (opI 0 a b) c) 0, 0) := by
  rw [ar_x00]
  refine (ev_bin _ _ _ _ _ _ ((ev_bin _ _ _ _ _ _ (ar_a a b c) (ar_b a b c)).trans (op_bin (k := 0) (by have := opI_bd (k := 0) 1000 1000 (by omega) (by omega) a1 a2 b1 b2; omega) (by have := opI_bd (k := 0) 1000 1000 (by omega) (by omega) a1 a2 b1 b2; omega))) (ar_c a b c)).trans ?_
  have h := opI_bd (k := 0) 1000 1000 (by omega) (by omega) a1 a2 b1 b2
  have hp : -1000000 ≤ opI 0 a b ∧ opI 0 a b ≤ 1000000 := by
    unfold opI
    simp
    omega
  generalize opI 0 a b = z at *
  exact op_bin (k := 0) (by unfold opI; simp; omega) (by unfold opI; simp; omega)
def arL01 : List UInt8 := [97, 32, 43, 32, 98, 32, 45, 32, 99]
theorem ar_calc01 : (parseT arL01).2.2 = 0 ∧ smaX (parseT arL01).1 = true := by decide +kernel
theorem ar_x01 : (parseT arL01).1 = binX [45] (binX [43] (nameX [97]) (nameX [98])) (nameX [99]) := by kernel_rfl
theorem ar_ev01 (a b c : Int) (a1 : -1000 ≤ a) (a2 : a ≤ 1000) (b1 : -1000 ≤ b) (b2 : b ≤ 1000) (c1 : -1000 ≤ c) (c2 : c ≤ 1000) : evT (arE a b c) (parseT arL01).1 = (numV (opI 1 (opI 0 a b) c) 0, 0) := by
  rw [ar_x01]
  refine (ev_bin _ _ _ _ _ _ ((ev_bin _ _ _ _ _ _ (ar_a a b c) (ar_b a b c)).trans (op_bin (k := 0) (by have := opI_bd (k := 0) 1000 1000 (by omega) (by omega) a1 a2 b1 b2; omega) (by have := opI_bd (k := 0) 1000 1000 (by omega) (by omega) a1 a2 b1 b2; omega))) (ar_c a b c)).trans ?_
  have h := opI_bd (k := 0) 1000 1000 (by omega) (by omega) a1 a2 b1 b2
  have hp : -1000000 ≤ opI 0 a b ∧ opI 0 a b ≤ 1000000 := by
    unfold opI
    simp
    omega
  generalize opI 0 a b = z at *
  exact op_bin (k := 1) (by unfold opI; simp; omega) (by unfold opI; simp; omega)
def arL02 : List UInt8 := [97, 32, 43, 32, 98, 32, 42, 32, 99]
theorem ar_calc02 : (parseT arL02).2.2 = 0 ∧ smaX (parseT arL02).1 = true := by decide +kernel
theorem ar_x02 : (parseT arL02).1 = binX [43] (nameX [97]) (binX [42] (nameX [98]) (nameX [99])) := by kernel_rfl
theorem ar_ev02 (a b c : Int) (a1 : -1000 ≤ a) (a2 : a ≤ 1000) (b1 : -1000 ≤ b) (b2 : b ≤ 1000) (c1 : -1000 ≤ c) (c2 : c ≤ 1000) : evT (arE a b c) (parseT arL02).1 = (numV (opI 0 a (opI 2 b c)) 0, 0) := by
  rw [ar_x02]
  refine (ev_bin _ _ _ _ _ _ (ar_a a b c) ((ev_bin _ _ _ _ _ _ (ar_b a b c) (ar_c a b c)).trans (op_bin (k := 2) (by have := opI_bd (k := 2) 1000 1000 (by omega) (by omega) b1 b2 c1 c2; omega) (by have := opI_bd (k := 2) 1000 1000 (by omega) (by omega) b1 b2 c1 c2; omega)))).trans ?_
  have h := opI_bd (k := 2) 1000 1000 (by omega) (by omega) b1 b2 c1 c2
  generalize opI 2 b c = z at *
  exact op_bin (k := 0) (by unfold opI; simp; omega) (by unfold opI; simp; omega)
def arL10 : List UInt8 := [97, 32, 45, 32, 98, 32, 43, 32, 99]
theorem ar_calc10 : (parseT arL10).2.2 = 0 ∧ smaX (parseT arL10).1 = true := by decide +kernel
theorem ar_x10 : (parseT arL10).1 = binX [43] (binX [45] (nameX [97]) (nameX [98])) (nameX [99]) := by kernel_rfl
theorem ar_ev10 (a b c : Int) (a1 : -1000 ≤ a) (a2 : a ≤ 1000) (b1 : -1000 ≤ b) (b2 : b ≤ 1000) (c1 : -1000 ≤ c) (c2 : c ≤ 1000) : evT (arE a b c) (parseT arL10).1 = (numV (opI 0 (opI 1 a b) c) 0, 0) := by
  rw [ar_x10]
  refine (ev_bin _ _ _ _ _ _ ((ev_bin _ _ _ _ _ _ (ar_a a b c) (ar_b a b c)).trans (op_bin (k := 1) (by have := opI_bd (k := 1) 1000 1000 (by omega) (by omega) a1 a2 b1 b2; omega) (by have := opI_bd (k := 1) 1000 1000 (by omega) (by omega) a1 a2 b1 b2; omega))) (ar_c a b c)).trans ?_
  have h := opI_bd (k := 1) 1000 1000 (by omega) (by omega) a1 a2 b1 b2
  have hp : -1000000 ≤ opI 1 a b ∧ opI 1 a b ≤ 1000000 := by
    unfold opI
    simp
    omega
  generalize opI 1 a b = z at *
  exact op_bin (k := 0) (by unfold opI; simp; omega) (by unfold opI; simp; omega)
def arL11 : List UInt8 := [97, 32, 45, 32, 98, 32, 45, 32, 99]
theorem ar_calc11 : (parseT arL11).2.2 = 0 ∧ smaX (parseT arL11).1 = true := by decide +kernel
theorem ar_x11 : (parseT arL11).1 = binX [45] (binX [45] (nameX [97]) (nameX [98])) (nameX [99]) := by kernel_rfl
theorem ar_ev11 (a b c : Int) (a1 : -1000 ≤ a) (a2 : a ≤ 1000) (b1 : -1000 ≤ b) (b2 : b ≤ 1000) (c1 : -1000 ≤ c) (c2 : c ≤ 1000) : evT (arE a b c) (parseT arL11).1 = (numV (opI 1 (opI 1 a b) c) 0, 0) := by
  rw [ar_x11]
  refine (ev_bin _ _ _ _ _ _ ((ev_bin _ _ _ _ _ _ (ar_a a b c) (ar_b a b c)).trans (op_bin (k := 1) (by have := opI_bd (k := 1) 1000 1000 (by omega) (by omega) a1 a2 b1 b2; omega) (by have := opI_bd (k := 1) 1000 1000 (by omega) (by omega) a1 a2 b1 b2; omega))) (ar_c a b c)).trans ?_
  have h := opI_bd (k := 1) 1000 1000 (by omega) (by omega) a1 a2 b1 b2
  have hp : -1000000 ≤ opI 1 a b ∧ opI 1 a b ≤ 1000000 := by
    unfold opI
    simp
    omega
  generalize opI 1 a b = z at *
  exact op_bin (k := 1) (by unfold opI; simp; omega) (by unfold opI; simp; omega)
def arL12 : List UInt8 := [97, 32, 45, 32, 98, 32, 42, 32, 99]
theorem ar_calc12 : (parseT arL12).2.2 = 0 ∧ smaX (parseT arL12).1 = true := by decide +kernel
theorem ar_x12 : (parseT arL12).1 = binX [45] (nameX [97]) (binX [42] (nameX [98]) (nameX [99])) := by kernel_rfl
theorem ar_ev12 (a b c : Int) (a1 : -1000 ≤ a) (a2 : a ≤ 1000) (b1 : -1000 ≤ b) (b2 : b ≤ 1000) (c1 : -1000 ≤ c) (c2 : c ≤ 1000) : evT (arE a b c) (parseT arL12).1 = (numV (opI 1 a (opI 2 b c)) 0, 0) := by
  rw [ar_x12]
  refine (ev_bin _ _ _ _ _ _ (ar_a a b c) ((ev_bin _ _ _ _ _ _ (ar_b a b c) (ar_c a b c)).trans (op_bin (k := 2) (by have := opI_bd (k := 2) 1000 1000 (by omega) (by omega) b1 b2 c1 c2; omega) (by have := opI_bd (k := 2) 1000 1000 (by omega) (by omega) b1 b2 c1 c2; omega)))).trans ?_
  have h := opI_bd (k := 2) 1000 1000 (by omega) (by omega) b1 b2 c1 c2
  generalize opI 2 b c = z at *
  exact op_bin (k := 1) (by unfold opI; simp; omega) (by unfold opI; simp; omega)
def arL20 : List UInt8 := [97, 32, 42, 32, 98, 32, 43, 32, 99]
theorem ar_calc20 : (parseT arL20).2.2 = 0 ∧ smaX (parseT arL20).1 = true := by decide +kernel
theorem ar_x20 : (parseT arL20).1 = binX [43] (binX [42] (nameX [97]) (nameX [98])) (nameX [99]) := by kernel_rfl
theorem ar_ev20 (a b c : Int) (a1 : -1000 ≤ a) (a2 : a ≤ 1000) (b1 : -1000 ≤ b) (b2 : b ≤ 1000) (c1 : -1000 ≤ c) (c2 : c ≤ 1000) : evT (arE a b c) (parseT arL20).1 = (numV (opI 0 (opI 2 a b) c) 0, 0) := by
  rw [ar_x20]
  refine (ev_bin _ _ _ _ _ _ ((ev_bin _ _ _ _ _ _ (ar_a a b c) (ar_b a b c)).trans (op_bin (k := 2) (by have := opI_bd (k := 2) 1000 1000 (by omega) (by omega) a1 a2 b1 b2; omega) (by have := opI_bd (k := 2) 1000 1000 (by omega) (by omega) a1 a2 b1 b2; omega))) (ar_c a b c)).trans ?_
  have h := opI_bd (k := 2) 1000 1000 (by omega) (by omega) a1 a2 b1 b2
  have hp : -1000000 ≤ opI 2 a b ∧ opI 2 a b ≤ 1000000 := by
    unfold opI
    simp
    exact mul1e3 a1 a2 b1 b2
  generalize opI 2 a b = z at *
  exact op_bin (k := 0) (by unfold opI; simp; omega) (by unfold opI; simp; omega)
def arL21 : List UInt8 := [97, 32, 42, 32, 98, 32, 45, 32, 99]
theorem ar_calc21 : (parseT arL21).2.2 = 0 ∧ smaX (parseT arL21).1 = true := by decide +kernel
theorem ar_x21 : (parseT arL21).1 = binX [45] (binX [42] (nameX [97]) (nameX [98])) (nameX [99]) := by kernel_rfl
theorem ar_ev21 (a b c : Int) (a1 : -1000 ≤ a) (a2 : a ≤ 1000) (b1 : -1000 ≤ b) (b2 : b ≤ 1000) (c1 : -1000 ≤ c) (c2 : c ≤ 1000) : evT (arE a b c) (parseT arL21).1 = (numV (opI 1 (opI 2 a b) c) 0, 0) := by
  rw [ar_x21]
  refine (ev_bin _ _ _ _ _ _ ((ev_bin _ _ _ _ _ _ (ar_a a b c) (ar_b a b c)).trans (op_bin (k := 2) (by have := opI_bd (k := 2) 1000 1000 (by omega) (by omega) a1 a2 b1 b2; omega) (by have := opI_bd (k := 2) 1000 1000 (by omega) (by omega) a1 a2 b1 b2; omega))) (ar_c a b c)).trans ?_
  have h := opI_bd (k := 2) 1000 1000 (by omega) (by omega) a1 a2 b1 b2
  have hp : -1000000 ≤ opI 2 a b ∧ opI 2 a b ≤ 1000000 := by
    unfold opI
    simp
    exact mul1e3 a1 a2 b1 b2
  generalize opI 2 a b = z at *
  exact op_bin (k := 1) (by unfold opI; simp; omega) (by unfold opI; simp; omega)
def arL22 : List UInt8 := [97, 32, 42, 32, 98, 32, 42, 32, 99]
theorem ar_calc22 : (parseT arL22).2.2 = 0 ∧ smaX (parseT arL22).1 = true := by decide +kernel
theorem ar_x22 : (parseT arL22).1 = binX [42] (binX [42] (nameX [97]) (nameX [98])) (nameX [99]) := by kernel_rfl
theorem ar_ev22 (a b c : Int) (a1 : -1000 ≤ a) (a2 : a ≤ 1000) (b1 : -1000 ≤ b) (b2 : b ≤ 1000) (c1 : -1000 ≤ c) (c2 : c ≤ 1000) : evT (arE a b c) (parseT arL22).1 = (numV (opI 2 (opI 2 a b) c) 0, 0) := by
  rw [ar_x22]
  refine (ev_bin _ _ _ _ _ _ ((ev_bin _ _ _ _ _ _ (ar_a a b c) (ar_b a b c)).trans (op_bin (k := 2) (by have := opI_bd (k := 2) 1000 1000 (by omega) (by omega) a1 a2 b1 b2; omega) (by have := opI_bd (k := 2) 1000 1000 (by omega) (by omega) a1 a2 b1 b2; omega))) (ar_c a b c)).trans ?_
  have h := opI_bd (k := 2) 1000 1000 (by omega) (by omega) a1 a2 b1 b2
  have hp : -1000000 ≤ opI 2 a b ∧ opI 2 a b ≤ 1000000 := by
    unfold opI
    simp
    exact mul1e3 a1 a2 b1 b2
  generalize opI 2 a b = z at *
  exact op_bin (k := 2) (by unfold opI; simp; exact (mul1e6 hp.1 hp.2 c1 c2).1) (by unfold opI; simp; exact (mul1e6 hp.1 hp.2 c1 c2).2)
def arL (p q : Nat) : List UInt8 := [97, 32] ++ opC p ++ [32, 98, 32] ++ opC q ++ [32, 99]
def arW (p q : Nat) (a b c : Int) : Int := if p < 2 ∧ q = 2 then opI p a (opI 2 b c) else opI q (opI p a b) c
theorem opC_len (k : Nat) : (opC k).length ≤ 1 := by unfold opC; split <;> (try split) <;> simp
theorem ar_all {p q : Nat} (hp : p < 3) (hq : q < 3) : (parseT (arL p q)).2.2 = 0 ∧ smaX (parseT (arL p q)).1 = true ∧ (arL p q).length ≤ 1000 := by
  match p, hp, q, hq with
  | 0, _, 0, _ => exact ⟨ar_calc00.1, ar_calc00.2, by decide⟩
  | 0, _, 1, _ => exact ⟨ar_calc01.1, ar_calc01.2, by decide⟩
  | 0, _, 2, _ => exact ⟨ar_calc02.1, ar_calc02.2, by decide⟩
  | 1, _, 0, _ => exact ⟨ar_calc10.1, ar_calc10.2, by decide⟩
  | 1, _, 1, _ => exact ⟨ar_calc11.1, ar_calc11.2, by decide⟩
  | 1, _, 2, _ => exact ⟨ar_calc12.1, ar_calc12.2, by decide⟩
  | 2, _, 0, _ => exact ⟨ar_calc20.1, ar_calc20.2, by decide⟩
  | 2, _, 1, _ => exact ⟨ar_calc21.1, ar_calc21.2, by decide⟩
  | 2, _, 2, _ => exact ⟨ar_calc22.1, ar_calc22.2, by decide⟩
theorem ar_evs {p q : Nat} (hp : p < 3) (hq : q < 3) (a b c : Int) (a1 : -1000 ≤ a) (a2 : a ≤ 1000) (b1 : -1000 ≤ b) (b2 : b ≤ 1000) (c1 : -1000 ≤ c) (c2 : c ≤ 1000) : evT (arE a b c) (parseT (arL p q)).1 = (numV (arW p q a b c) 0, 0) := by
  match p, hp, q, hq with
  | 0, _, 0, _ => exact ar_ev00 a b c a1 a2 b1 b2 c1 c2
  | 0, _, 1, _ => exact ar_ev01 a b c a1 a2 b1 b2 c1 c2
  | 0, _, 2, _ => exact ar_ev02 a b c a1 a2 b1 b2 c1 c2
  | 1, _, 0, _ => exact ar_ev10 a b c a1 a2 b1 b2 c1 c2
  | 1, _, 1, _ => exact ar_ev11 a b c a1 a2 b1 b2 c1 c2
  | 1, _, 2, _ => exact ar_ev12 a b c a1 a2 b1 b2 c1 c2
  | 2, _, 0, _ => exact ar_ev20 a b c a1 a2 b1 b2 c1 c2
  | 2, _, 1, _ => exact ar_ev21 a b c a1 a2 b1 b2 c1 c2
  | 2, _, 2, _ => exact ar_ev22 a b c a1 a2 b1 b2 c1 c2
theorem str_cell (w : World) {p : Nat} (hp : p < 3) : (w.alloc (Obj.cells #[.string ⟨#[43]⟩, .string ⟨#[45]⟩, .string ⟨#[42]⟩] 9)).cell? ⟨w.heap.size, p, none⟩ = some (.string ⟨(opC p).toArray⟩) := by
  match p, hp with
  | 0, _ => go_simp; rfl
  | 1, _ => go_simp; rfl
  | 2, _ => go_simp; rfl
end Go.Proofs.YtheoalmnbkjpjaaGreat

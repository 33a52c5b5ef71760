/- SMath SAdd Strs Parse: laid together. -/
import Derived.Test.YtejnmkhdnhggcaaDoorSBA
import Derived.Test.YtejnmkhdnhggcaaDoorSAB
import Derived.Test.YtejnmkhdnhggcaaDoorSAA
import Derived.Shelf.Strings.MapGrows
import Derived.Lib.Bytealg
import Derived.Deep.QuietTactic
import Derived.BigQuiet
/- The mathematics of telling: the text of an expression, of a value. -/
namespace Go.Proofs.YtejnmkhdnhggcaaDoor
set_option linter.unusedVariables false

/- a decimal; one below nought in brackets. -/
def decL (m s : Int) : List UInt8 := sgnL m ++ bodyL (absI m) s
def numL (m s : Int) : List UInt8 := if m < 0 then [40] ++ (decL m s ++ [41]) else decL m s
def truL (b : Bool) : List UInt8 := if b = true then [116, 114, 117, 101] else [102, 97, 108, 115, 101]
def nulL : List UInt8 := [110, 117, 108, 108]
def quoL (t : ByteArray) : List UInt8 := [34] ++ (XT.tl t ++ [34])
/- the first n of a row, with what stands between. -/
def rowL (f : Nat → List UInt8) : Nat → List UInt8
  | 0 => []
  | n + 1 => rowL f n ++ ((if n = 0 then [] else [44, 32]) ++ f n)
/- what stands ahead of the kids, between and behind them. -/
def aroL (k : Int) (t : ByteArray) (lo hi : Bool) : List (List UInt8) :=
  if k = 6 then [[40], [32] ++ (XT.tl t ++ [32]), [41]] else if k = 7 then [[40, 45], [41]] else if k = 8 then [[40, 105, 102, 32], [32, 116, 104, 101, 110, 32], [32, 101, 108, 115, 101, 32], [41]]
  else if k = 11 then [[40], [32, 105, 110, 32] ++ (if lo = true then [91] else [40]), [46, 46], (if hi = true then [93] else [41]) ++ [41]] else []
def bouL (l : List (List UInt8)) (f : Nat → List UInt8) : Nat → List UInt8
  | 0 => l.getD 0 []
  | n + 1 => bouL l f n ++ (f n ++ l.getD (n + 1) [])
def showX : XT → List UInt8
  | .none => []
  | .mk k b m s t lo hi _ len _ kid =>
    if k = 1 then nulL else if k = 2 then truL b else if k = 3 then numL m s else if k = 4 then quoL t else if k = 5 then XT.tl t
    else if k = 9 then [91] ++ (rowL (fun i => showX (kid i)) len ++ [93]) else if k = 10 then XT.tl t ++ ([40] ++ (rowL (fun i => showX (kid i)) len ++ [41]))
    else if (aroL k t lo hi).length = len + 1 then bouL (aroL k t lo hi) (fun i => showX (kid i)) len else [63]
def showV : VT → List UInt8
  | .none => []
  | .mk k b m s t _ len _ kid =>
    if k = 0 then nulL else if k = 1 then truL b else if k = 2 then decL m s else if k = 3 then quoL t else if k = 4 then [91] ++ (rowL (fun i => showV (kid i)) len ++ [93]) else [63]
/- its decimals may be. -/
def decsX : XT → Prop
  | .none => True
  | .mk _ _ m s _ _ _ _ len _ kid => isB m s = true ∧ ∀ i, i < len → decsX (kid i)
def decsV : VT → Prop
  | .none => True
  | .mk _ _ m s _ _ len _ kid => isB m s = true ∧ ∀ i, i < len → decsV (kid i)

theorem row_congr {f g : Nat → List UInt8} {n : Nat} (h : ∀ i, i < n → f i = g i) : rowL f n = rowL g n := by
  induction n with
  | zero => rfl
  | succ n ih =>
    unfold rowL
    rw [ih (fun i hi => h i (by omega)), h n (by omega)]
theorem bou_congr {l : List (List UInt8)} {f g : Nat → List UInt8} {n : Nat} (h : ∀ i, i < n → f i = g i) : bouL l f n = bouL l g n := by
  induction n with
  | zero => rfl
  | succ n ih =>
    unfold bouL
    rw [ih (fun i hi => h i (by omega)), h n (by omega)]
theorem row_le {f : Nat → List UInt8} {n : Nat} : ∀ i, i ≤ n → (rowL f i).length ≤ (rowL f n).length := by
  induction n with
  | zero => intro i hi; obtain rfl : i = 0 := by omega
            exact Nat.le_refl _
  | succ n ih =>
    intro i hi
    by_cases h : i = n + 1
    · subst h; exact Nat.le_refl _
    · have := ih i (by omega)
      show _ ≤ (rowL f n ++ ((if n = 0 then [] else [44, 32]) ++ f n)).length
      simp only [List.length_append]
      omega
theorem bou_le {l : List (List UInt8)} {f : Nat → List UInt8} {n : Nat} : ∀ i, i ≤ n → (bouL l f i).length ≤ (bouL l f n).length := by
  induction n with
  | zero => intro i hi; obtain rfl : i = 0 := by omega
            exact Nat.le_refl _
  | succ n ih =>
    intro i hi
    by_cases h : i = n + 1
    · subst h; exact Nat.le_refl _
    · have := ih i (by omega)
      show _ ≤ (bouL l f n ++ (f n ++ l.getD (n + 1) [])).length
      simp only [List.length_append]
      omega
/- the text hangs on the tree alone. -/
theorem showX_bare (x : XT) : showX x.bare = showX x := by
  induction x with
  | none => rfl
  | mk k b m s t lo hi a len cap kid ih =>
    have e : ∀ i, i < len → showX (if i < len then (kid i).bare else .none) = showX (kid i) := fun i hi => by rw [if_pos hi]; exact ih i
    unfold XT.bare showX
    rw [row_congr e, bou_congr e]
theorem decsX_bare (x : XT) : decsX x.bare ↔ decsX x := by
  induction x with
  | none => exact Iff.rfl
  | mk k b m s t lo hi a len cap kid ih =>
    unfold XT.bare decsX
    constructor
    · rintro ⟨h, hk⟩
      refine ⟨h, fun i hi => ?_⟩
      have := hk i hi
      dsimp only at this
      rw [if_pos hi] at this
      exact (ih i).1 this
    · rintro ⟨h, hk⟩
      refine ⟨h, fun i hi => ?_⟩
      dsimp only
      rw [if_pos hi]
      exact (ih i).2 (hk i hi)
end Go.Proofs.YtejnmkhdnhggcaaDoor

/- What is told, added to one text: the small pieces. -/
namespace Go.Proofs.YtejnmkhdnhggcaaDoor
open Go.RowKit
set_option linter.unusedVariables false
set_option linter.unusedSimpArgs false

theorem BA.below {B b : Nat} {l : List UInt8} {w w' : World} (h : BA B b l w) (k : Below w.heap.size w w') : BA B b l w' := Lib.IsBuilderF.below h k
theorem Wr.of_below {B b : Nat} {l : List UInt8} {w w' : World} (h : BA B b l w) (k : Below w.heap.size w w') : Wr B b l w w' := by
  obtain ⟨h1, h2⟩ := h.le
  exact ⟨h.below k, k.mono (by omega), fun i o hi _ _ => (k.block i (Array.getElem?_eq_some_iff.1 hi).1).trans hi⟩
theorem Wr.ba {B b : Nat} {l : List UInt8} {w w' : World} (h : Wr B b l w w') : BA B b l w' := h.1
theorem XT.In.keepB {B : Nat} {x : XT} {w w' : World} (h : x.In (fun g => g < B) w) (k : Below B w w') : x.In (fun g => g < B) w' := h.keep (fun bl o _ hq => World.cell?_of_block (w := w) (k.block bl hq))
theorem Wr.size {B b : Nat} {l : List UInt8} {w w' : World} (h : Wr B b l w w') : w.heap.size ≤ w'.heap.size := h.2.1.size

theorem edge_any (c : Bool) (y n : ByteArray) (w : World) : Calls Tryd.prog 39 #[.bool c, .string y, .string n] w fun e w' => e = .returned (.string (if c = true then y else n)) ∧ w' = w := by
  cases c
  · go_enter Tryd.func39, Tryd.ntmps39
    go_wp2_with fail
    go_ret
    exact ⟨rfl, rfl⟩
  · go_enter Tryd.func39, Tryd.ntmps39
    go_wp2_with fail
    go_ret
    exact ⟨rfl, rfl⟩
theorem truth_any (c : Bool) (w : World) : Calls Tryd.prog 27 #[.bool c] w fun e w' => e = .returned (.string ⟨(truL c).toArray⟩) ∧ w' = w := by
  have E := hide (edge_any c ⟨#[116, 114, 117, 101]⟩ ⟨#[102, 97, 108, 115, 101]⟩ w)
  have F : Hid ((if c = true then (⟨#[116, 114, 117, 101]⟩ : ByteArray) else ⟨#[102, 97, 108, 115, 101]⟩) = ⟨(truL c).toArray⟩) := hide (by cases c <;> rfl)
  generalize (if c = true then (⟨#[116, 114, 117, 101]⟩ : ByteArray) else ⟨#[102, 97, 108, 115, 101]⟩) = s at *
  go_enter Tryd.func27, Tryd.ntmps27
  go_wp2_with fail
  refine (unhide E).mono ?_
  rintro e w' ⟨rfl, rfl⟩
  go_wp2_with fail
  go_ret
  refine ⟨?_, rfl⟩
  rw [unhide F]
  rfl
theorem quoted_any (B b : Nat) (l : List UInt8) (t : ByteArray) (w : World) (h : BA B b l w) (hlen : l.length + (quoL t).length ≤ 1099511627776) :
    Calls Tryd.prog 29 #[.pointer (some ⟨b, 0, none⟩), .string t] w fun e w' => e = .returned (.tuple #[]) ∧ Wr B b (l ++ quoL t) w w' := by
  have hq : (quoL t).length = t.data.toList.length + 2 := by simp [quoL, XT.tl]
  have W1 := hide (wb_any B b l 34 w h (by omega))
  have et : t = ⟨(XT.tl t).toArray⟩ := by simp [XT.tl]
  have W2 := hide (fun w' (k : BA B b (l ++ [34]) w') => ws_any B b (l ++ [34]) (XT.tl t) w' k (by simp [XT.tl]; simp at hq; omega))
  have W3 := hide (fun w' (k : BA B b (l ++ [34] ++ XT.tl t) w') => wb_any B b (l ++ [34] ++ XT.tl t) 34 w' k (by simp [XT.tl]; simp at hq; omega))
  rw [← et] at W2
  have F : Hid (l ++ [34] ++ XT.tl t ++ [34] = l ++ quoL t) := hide (by simp [quoL])
  generalize l ++ quoL t = R at *
  generalize XT.tl t = tt at *
  clear hq et hlen
  go_enter Tryd.func29, Tryd.ntmps29
  go_wp2_with fail
  refine (unhide W1).mono ?_
  rintro e w1 ⟨rfl, k1⟩
  go_wp2_with fail
  refine (unhide W2 _ k1.ba).mono ?_
  rintro e w2 ⟨rfl, k2⟩
  go_wp2_with fail
  refine (unhide W3 _ k2.ba).mono ?_
  rintro e w3 ⟨rfl, k3⟩
  go_wp2_with fail
  go_end0
  have k := k1.trans (k2.trans k3)
  rw [unhide F] at k
  exact ⟨rfl, k⟩
end Go.Proofs.YtejnmkhdnhggcaaDoor

/- The contracts of the string functions that Parse goes through. -/
namespace Go.Proofs.YtejnmkhdnhggcaaDoor
open Go.RowKit

theorem ext_eq (l : List UInt8) (a b : Nat) : (ByteArray.mk l.toArray).extract a b = ByteArray.mk ((l.drop a).take (b - a)).toArray := Lib.extract_eq ⟨l.toArray⟩ a b

theorem idx_facts (l : List UInt8) (c : UInt8) : Lib.indexByte l c = -1 ∨ ∃ k : Nat, Lib.indexByte l c = k ∧ k < l.length := by
  induction l with
  | nil => exact Or.inl rfl
  | cons b l ih =>
    unfold Lib.indexByte
    split
    · exact Or.inr ⟨0, rfl, by simp⟩
    · rcases ih with h | ⟨k, h, hk⟩
      · rw [h]; exact Or.inl rfl
      · rw [h]
        refine Or.inr ⟨k + 1, ?_, by simpa using hk⟩
        rw [if_neg (by intro h; have := eq_of_beq h; omega)]; rfl

def isDig (c : UInt8) : Bool := decide (48 ≤ c.toNat) && decide (c.toNat ≤ 57)

theorem take_all (l : List UInt8) (k : Nat) (h : k < l.length) : (l.take (k + 1)).all isDig = (isDig l[k] && (l.take k).all isDig) := by
  rw [List.take_succ_eq_append_getElem h, List.all_append, Bool.and_comm]
  simp

theorem all_false (l : List UInt8) (k : Nat) (h : k < l.length) (hd : isDig l[k] = false) : l.all isDig = false := by
  rw [List.all_eq_false]
  exact ⟨l[k], List.getElem_mem h, by simp [hd]⟩

/- one or more digits. -/
def digs (l : List UInt8) : Bool := l.all isDig && !l.isEmpty

/- what digits say. -/
def num (l : List UInt8) : Int := l.foldl (fun n c => n * 10 + ((c.toNat : Int) - 48)) 0

theorem num_snoc (l : List UInt8) (c : UInt8) : num (l ++ [c]) = num l * 10 + ((c.toNat : Int) - 48) := by
  unfold num; rw [List.foldl_append]; rfl

theorem num_take (l : List UInt8) (k : Nat) (h : k < l.length) : num (l.take (k + 1)) = num (l.take k) * 10 + ((l[k].toNat : Int) - 48) := by
  rw [List.take_succ_eq_append_getElem h, num_snoc]

theorem isDig_bd {c : UInt8} (h : isDig c = true) : 48 ≤ (c.toNat : Int) ∧ (c.toNat : Int) ≤ 57 := by
  unfold isDig at h; simp at h; omega

theorem dig_get (l : List UInt8) (h : l.all isDig = true) (k : Nat) (hk : k < l.length) : isDig l[k] = true :=
  List.all_eq_true.1 h _ (List.getElem_mem hk)

theorem num_bd (l : List UInt8) (h : l.all isDig = true) (k : Nat) (hk : k ≤ l.length) : 0 ≤ num (l.take k) ∧ num (l.take k) + 1 ≤ p10 k := by
  induction k with
  | zero => simp [num, p10]
  | succ k ih =>
    have ⟨a, b⟩ := ih (by omega)
    have d := isDig_bd (dig_get l h k (by omega))
    rw [num_take l k (by omega), p10_succ]
    omega

theorem p10_18 {k : Nat} (h : k ≤ 18) : p10 k ≤ 1000000000000000000 := by
  have := p10_mono h
  have e : p10 18 = 1000000000000000000 := by decide
  omega

theorem num_join (a b : List UInt8) (ha : a.all isDig = true) (hb : b.all isDig = true) (hl : a.length + b.length ≤ 18) :
    0 ≤ num a ∧ num a ≤ 1000000000000000000 ∧ 0 ≤ num b ∧ num b ≤ 1000000000000000000 ∧ 0 ≤ num a * p10 b.length ∧ num a * p10 b.length ≤ 1000000000000000000 ∧ num a * p10 b.length + num b ≤ 1000000000000000000 := by
  have a1 := num_bd a ha a.length (Nat.le_refl _)
  have b1 := num_bd b hb b.length (Nat.le_refl _)
  rw [List.take_length] at a1 b1
  have pa := p10_18 (k := a.length) (by omega)
  have pb := p10_18 (k := b.length) (by omega)
  have pc := p10_18 (k := a.length + b.length) hl
  rw [p10_add] at pc
  have p0 := p10_pos b.length
  have h1 := Int.mul_le_mul_of_nonneg_right a1.2 (show 0 ≤ p10 b.length by omega)
  have h2 := Int.mul_nonneg a1.1 (show 0 ≤ p10 b.length by omega)
  rw [Int.add_mul] at h1
  omega

end Go.Proofs.YtejnmkhdnhggcaaDoor

/- The contract of dec's Parse, over whatever its text is cut into. -/
namespace Go.Proofs.YtejnmkhdnhggcaaDoor
open Go.RowKit

/- what Parse hands to Fit. -/
def parseM (a b : List UInt8) (neg : Bool) : Int := if neg = true then -(num a * p10 b.length + num b) else num a * p10 b.length + num b

end Go.Proofs.YtejnmkhdnhggcaaDoor

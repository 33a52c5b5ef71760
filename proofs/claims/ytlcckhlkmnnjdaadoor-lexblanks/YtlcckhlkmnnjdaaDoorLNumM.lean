/- Digits, dots, digits: what they are as tokens. -/
import Derived.Test.YtlcckhlkmnnjdaaDoorLMath2
import Derived.Test.YtlcckhlkmnnjdaaDoorLBound
namespace Go.Proofs.YtlcckhlkmnnjdaaDoor
set_option linter.unusedVariables false

theorem run_app {p : UInt8 → Bool} {A : List UInt8} (h : A.all p = true) (r : List UInt8) : run p (A ++ r) = A.length + run p r := by
  induction A with
  | nil => simp
  | cons c A ih =>
    simp only [List.all_cons, Bool.and_eq_true] at h
    rw [List.cons_append, run, if_pos h.1, ih h.2, List.length_cons]
    omega
theorem dg_facts {c : UInt8} (h : dgB c = true) : smB c = false ∧ c.toNat ≠ 32 := by
  unfold dgB at h
  simp at h
  unfold smB
  refine ⟨?_, by omega⟩
  simp
  omega
theorem consR_ok (t : Tk) (ts : List Tk) (p : Nat) : consR t (ts, p, 0) = (t :: ts, p, 0) := rfl
theorem consR_err (t : Tk) (ts : List Tk) (p e : Nat) (h : e ≠ 0) : consR t (ts, p, e) = ([], p, e) := by unfold consR; rw [if_neg h]

theorem lexS_num (c : UInt8) (r : List UInt8) (pos n : Nat) (hd : dgB c = true) (hn : n < 60) :
    lexS (c :: r) 0 pos n = consR (2, (c :: r).take (numN (c :: r)), pos) (lexS ((c :: r).drop (numN (c :: r))) 0 (pos + numN (c :: r)) (n + 1)) := by
  obtain ⟨hs, h32⟩ := dg_facts hd
  have hK : tokK (c :: r) = 2 := by unfold tokK; simp [hs, hd]
  have hN : tokN (c :: r) = numN (c :: r) := by unfold tokN; simp [hs, hd]
  have hT : tokT (c :: r) = (c :: r).take (numN (c :: r)) := by unfold tokT saidL; rw [hK, hN, if_neg (by omega)]
  have hE : tokE (c :: r) n = 0 := by
    unfold tokE fltN flt
    rw [hK]
    simp
    omega
  have hp := numN_pos r hd
  have hle := numN_le (c :: r)
  rw [lexS, if_neg h32, if_pos hE, hK, hT, hN, lexS_skip _ _ _ _ (by simp only [List.length_cons] at hle; omega)]
  rw [show (c :: r).drop (numN (c :: r)) = r.drop (numN (c :: r) - 1) by
    generalize numN (c :: r) = m at *
    cases m with
    | zero => omega
    | succ m => simp]
  rw [show pos + 1 + (numN (c :: r) - 1) = pos + numN (c :: r) by omega]
theorem sgn_dots (r : List UInt8) : sgn sgs (46 :: 46 :: r) = 2 := by simp [sgn, sgs, preB]
theorem lexS_dots (r : List UInt8) (pos n : Nat) (hn : n < 60) : lexS (46 :: 46 :: r) 0 pos n = consR (4, [46, 46], pos) (lexS r 0 (pos + 2) (n + 1)) := by
  have hK : tokK (46 :: 46 :: r) = 4 := by
    unfold tokK
    have a : smB 46 = false := by decide
    have b : dgB 46 = false := by decide
    have c : ¬ (46 : UInt8).toNat = 34 := by decide
    simp only [a, b, c, sgn_dots]
    simp
  have hN : tokN (46 :: 46 :: r) = 2 := by
    unfold tokN
    have a : smB 46 = false := by decide
    have b : dgB 46 = false := by decide
    have c : ¬ (46 : UInt8).toNat = 34 := by decide
    simp only [a, b, c, sgn_dots]
    simp
  have hT : tokT (46 :: 46 :: r) = [46, 46] := by unfold tokT saidL; rw [hK, hN, if_neg (by omega)]; rfl
  have hE : tokE (46 :: 46 :: r) n = 0 := by
    unfold tokE fltN flt
    rw [hK]
    simp
    omega
  rw [lexS, if_neg (by decide), if_pos hE, hK, hT, hN, lexS_skip _ _ _ _ (by simp)]
  rfl
theorem lexS_dot (pos n : Nat) : lexS [46] 0 pos n = ([], pos, 2) := by
  have hK : tokK [46] = 0 := by decide
  have hE : tokE [46] n = 2 := by
    unfold tokE fltN flt
    rw [hK]
    simp
  rw [lexS, if_neg (by decide), if_neg (by omega), hE]

theorem run_self {A : List UInt8} (ha : A.all dgB = true) : run dgB A = A.length := by
  have := run_app ha []
  rwa [List.append_nil, run, Nat.add_zero] at this
theorem numN_self {A : List UInt8} (ha : A.all dgB = true) : numN A = A.length := by
  unfold numN
  rw [run_self ha, List.drop_length, if_neg (by simp)]
theorem numN_dot {A : List UInt8} (ha : A.all dgB = true) : numN (A ++ [46]) = A.length := by
  have h1 : run dgB (A ++ [46]) = A.length := by rw [run_app ha]; rfl
  unfold numN
  rw [h1, List.drop_left' rfl, List.head?_cons, if_pos rfl, if_pos]
  rw [List.drop_of_length_le (by simp)]; rfl
theorem numN_dots {A : List UInt8} (ha : A.all dgB = true) (r : List UInt8) : numN (A ++ 46 :: 46 :: r) = A.length := by
  have h1 : run dgB (A ++ 46 :: 46 :: r) = A.length := by rw [run_app ha]; rfl
  unfold numN
  rw [h1, List.drop_left' rfl, List.head?_cons, if_pos rfl, ← List.drop_drop, List.drop_left' rfl, if_pos]
  rfl
theorem numN_both {A B : List UInt8} (ha : A.all dgB = true) (hb : B.all dgB = true) (lb : 1 ≤ B.length) : numN (A ++ 46 :: B) = A.length + 1 + B.length := by
  have h1 : run dgB (A ++ 46 :: B) = A.length := by rw [run_app ha]; rfl
  unfold numN
  rw [h1, List.drop_left' rfl, List.head?_cons, if_pos rfl, ← List.drop_drop, List.drop_left' rfl]
  simp only [List.drop_succ_cons, List.drop_zero]
  rw [run_self hb, if_neg (by omega)]
theorem head_dg {A : List UInt8} (ha : A.all dgB = true) (la : 1 ≤ A.length) : ∃ c A', A = c :: A' ∧ dgB c = true := by
  cases A with
  | nil => simp at la
  | cons c A => exact ⟨c, A, rfl, by simp only [List.all_cons, Bool.and_eq_true] at ha; exact ha.1⟩
theorem lexS_numL {A : List UInt8} (ha : A.all dgB = true) (la : 1 ≤ A.length) (r : List UInt8) (pos n : Nat) (hn : n < 60) :
    lexS (A ++ r) 0 pos n = consR (2, (A ++ r).take (numN (A ++ r)), pos) (lexS ((A ++ r).drop (numN (A ++ r))) 0 (pos + numN (A ++ r)) (n + 1)) := by
  obtain ⟨c, A', rfl, hd⟩ := head_dg ha la
  exact lexS_num c (A' ++ r) pos n hd hn
theorem lexT_dot1 {A B : List UInt8} (ha : A.all dgB = true) (hb : B.all dgB = true) (la : 1 ≤ A.length) (la5 : A.length ≤ 5) (lb : 1 ≤ B.length) (lb5 : B.length ≤ 5) :
    lexT ((A ++ repL 46 1) ++ B) = ([(2, (A ++ repL 46 1) ++ B, 0)], A.length + 1 + B.length, 0) := by
  have e : (A ++ repL 46 1) ++ B = A ++ 46 :: B := by simp [repL]
  rw [e]
  have hl : (A ++ 46 :: B).length = A.length + 1 + B.length := by simp; omega
  unfold lexT
  rw [if_neg (by omega), lexS_numL ha la _ _ _ (by omega), numN_both ha hb lb, ← hl, List.drop_length, List.take_length, lexS, consR_ok]
  simp
theorem lexT_dot1e {A : List UInt8} (ha : A.all dgB = true) (la : 1 ≤ A.length) (la5 : A.length ≤ 5) : lexT (A ++ repL 46 1) = ([], A.length, 2) := by
  have e : A ++ repL 46 1 = A ++ [46] := rfl
  rw [e]
  unfold lexT
  rw [if_neg (by simp; omega), lexS_numL ha la _ _ _ (by omega), numN_dot ha, List.drop_left' rfl, lexS_dot, consR_err _ _ _ _ (by omega)]
  simp
theorem lexT_dot2 {A B : List UInt8} (ha : A.all dgB = true) (hb : B.all dgB = true) (la : 1 ≤ A.length) (la5 : A.length ≤ 5) (lb : 1 ≤ B.length) (lb5 : B.length ≤ 5) :
    lexT ((A ++ repL 46 2) ++ B) = ([(2, A, 0), (4, [46, 46], A.length), (2, B, A.length + 2)], A.length + 2 + B.length, 0) := by
  have e : (A ++ repL 46 2) ++ B = A ++ 46 :: 46 :: B := by simp [repL, List.replicate]
  rw [e]
  have h3 := lexS_numL hb lb [] (A.length + 2) 2 (by omega)
  rw [List.append_nil, numN_self hb, List.drop_length, List.take_length, lexS, consR_ok] at h3
  unfold lexT
  rw [if_neg (by simp; omega), lexS_numL ha la _ _ _ (by omega), numN_dots ha, List.drop_left' rfl, List.take_left' rfl, lexS_dots _ _ _ (by omega)]
  simp only [Nat.zero_add]
  rw [h3, consR_ok, consR_ok]
theorem lexT_dot2e {A : List UInt8} (ha : A.all dgB = true) (la : 1 ≤ A.length) (la5 : A.length ≤ 5) : lexT (A ++ repL 46 2) = ([(2, A, 0), (4, [46, 46], A.length)], A.length + 2, 0) := by
  have e : A ++ repL 46 2 = A ++ 46 :: 46 :: [] := rfl
  rw [e]
  unfold lexT
  rw [if_neg (by simp; omega), lexS_numL ha la _ _ _ (by omega), numN_dots ha, List.drop_left' rfl, List.take_left' rfl, lexS_dots _ _ _ (by omega)]
  simp only [Nat.zero_add]
  rw [lexS, consR_ok, consR_ok]
end Go.Proofs.YtlcckhlkmnnjdaaDoor

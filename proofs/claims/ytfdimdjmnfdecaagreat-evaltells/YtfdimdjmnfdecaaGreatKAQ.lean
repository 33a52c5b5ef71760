/- LMath Strs Parse RDigs PMath FMath: laid together. -/
import Derived.Lib.Bytealg
import Derived.Deep.QuietTactic
import Derived.BigQuiet
import Derived.Test.YtfdimdjmnfdecaaGreatKAE
set_option linter.unusedVariables false
set_option linter.unusedSimpArgs false
set_option maxHeartbeats 8000000
namespace Go.Proofs.YtfdimdjmnfdecaaGreat
open Go.RowKit
section
def smB (c : UInt8) : Bool := decide (97 ≤ c.toNat) && decide (c.toNat ≤ 122)
def dgB (c : UInt8) : Bool := decide (48 ≤ c.toNat) && decide (c.toNat ≤ 57)
def nmB (c : UInt8) : Bool := smB c || dgB c
def txB (c : UInt8) : Bool := decide (32 ≤ c.toNat) && decide (c.toNat ≤ 126) && !decide (c.toNat = 34)
def blB (c : UInt8) : Bool := decide (c.toNat = 32)
def run (p : UInt8 → Bool) : List UInt8 → Nat
 | [] => 0
 | c :: l => if p c = true then run p l + 1 else 0
theorem run_le (p : UInt8 → Bool) (l : List UInt8) : run p l ≤ l.length := by
 induction l with
 | nil => exact Nat.le_refl _
 | cons c l ih => unfold run; split <;> simp <;> omega
theorem drop_cons {l : List UInt8} {k : Nat} (h : k < l.length) : l.drop k = l[k] :: l.drop (k + 1) := List.drop_eq_getElem_cons h
theorem run_yes {p : UInt8 → Bool} {l : List UInt8} {k : Nat} (h : k < l.length) (hp : p l[k] = true) : k + run p (l.drop k) = (k + 1) + run p (l.drop (k + 1)) := by
 rw [drop_cons h, run, if_pos hp]; omega
theorem run_no {p : UInt8 → Bool} {l : List UInt8} {k : Nat} (h : k < l.length) (hp : p l[k] = false) : run p (l.drop k) = 0 := by
 rw [drop_cons h, run, if_neg (by simp [hp])]
theorem run_end {p : UInt8 → Bool} {l : List UInt8} {k : Nat} (h : l.length ≤ k) : run p (l.drop k) = 0 := by
 rw [List.drop_of_length_le h, run]
theorem run_in {p : UInt8 → Bool} (l : List UInt8) : ∀ j (h : j < l.length), j < run p l → p l[j] = true := by
 induction l with
 | nil => intro j h; exact absurd h (Nat.not_lt_zero _)
 | cons c l ih =>
  intro j h hj
  unfold run at hj
  split at hj
  ·cases j with
   | zero => assumption
   | succ j => exact ih j (by simpa using h) (by omega)
  ·exact absurd hj (Nat.not_lt_zero _)
def sgs : List (List UInt8) := [[60, 61], [62, 61], [33, 61], [46, 46], [60], [62], [61], [43], [45], [42], [47], [40], [41], [91], [93], [44]]
def preB (g r : List UInt8) : Bool := decide (g.length ≤ r.length) && (r.take g.length == g)
def sgn : List (List UInt8) → List UInt8 → Nat
 | [], _ => 0
 | g :: gs, r => if preB g r = true then g.length else sgn gs r
def wds : List (List UInt8) := [[116, 114, 117, 101], [102, 97, 108, 115, 101], [110, 117, 108, 108], [105, 102], [116, 104, 101, 110], [101, 108, 115, 101], [97, 110, 100], [111, 114], [105, 110]]
def wordB (l : List UInt8) : Bool := wds.any (fun x => l == x)
def numN (r : List UInt8) : Nat :=
 if (r.drop (run dgB r)).head? = some 46 then
  if run dgB (r.drop (run dgB r + 1)) = 0 then run dgB r else run dgB r + 1 + run dgB (r.drop (run dgB r + 1))
 else run dgB r
def endB (r : List UInt8) : Bool := (r.drop (1 + run txB (r.drop 1))).head? == some 34
def tokK (r : List UInt8) : Nat :=
 match r with
 | [] => 0
 | c :: _ => if smB c = true then 1 else if dgB c = true then 2 else if c.toNat = 34 then (if endB r = true then 3 else 0) else if sgn sgs r = 0 then 0 else 4
def tokN (r : List UInt8) : Nat :=
 match r with
 | [] => 0
 | c :: _ => if smB c = true then run nmB r else if dgB c = true then numN r else if c.toNat = 34 then (if endB r = true then 1 + run txB (r.drop 1) + 1 else 0) else sgn sgs r
def saidL (k : Nat) (t : List UInt8) : List UInt8 := if k = 3 then (t.drop 1).take (t.length - 1 - 1) else t
def tokT (r : List UInt8) : List UInt8 := saidL (tokK r) (r.take (tokN r))
def flt (k : Nat) (t : List UInt8) : Nat := if k = 0 then 2 else if k = 1 ∧ 8 < t.length ∧ wordB t = false then 13 else if k = 3 ∧ 16 < t.length then 13 else 0
def fltN (k : Nat) (t : List UInt8) (n : Nat) : Nat := if flt k t = 0 ∧ 60 ≤ n then 13 else flt k t
def tokE (r : List UInt8) (n : Nat) : Nat := fltN (tokK r) (tokT r) n
abbrev Tk := Nat × List UInt8 × Nat
def consR (t : Tk) (x : List Tk × Nat × Nat) : List Tk × Nat × Nat := if x.2.2 = 0 then (t :: x.1, x.2) else ([], x.2)
def glue (acc : List Tk) (x : List Tk × Nat × Nat) : List Tk × Nat × Nat := if x.2.2 = 0 then (acc ++ x.1, x.2) else ([], x.2)
def lexS : List UInt8 → Nat → Nat → Nat → List Tk × Nat × Nat
 | [], _, pos, _ => ([], pos, 0)
 | _ :: r, k + 1, pos, n => lexS r k (pos + 1) n
 | c :: r, 0, pos, n =>
  if c.toNat = 32 then lexS r 0 (pos + 1) n
  else if tokE (c :: r) n = 0 then consR (tokK (c :: r), tokT (c :: r), pos) (lexS r (tokN (c :: r) - 1) (pos + 1) (n + 1))
  else ([], pos, tokE (c :: r) n)
def lexT (l : List UInt8) : List Tk × Nat × Nat := if 200 < l.length then ([], 0, 13) else lexS l 0 0 0
theorem lexS_skip (r : List UInt8) : ∀ k pos n, k ≤ r.length → lexS r k pos n = lexS (r.drop k) 0 (pos + k) n := by
 induction r with
 | nil => intro k pos n h; have : k = 0 := by simpa using h
          subst this; rfl
 | cons c r ih =>
  intro k pos n h
  cases k with
  | zero => rfl
  | succ k =>
   rw [lexS, ih k (pos + 1) n (by simpa using h)]
   simp only [List.drop_succ_cons]
   rw [show pos + 1 + k = pos + (k + 1) by omega]
theorem preB_le {g r : List UInt8} (h : preB g r = true) : g.length ≤ r.length := by
 unfold preB at h; simp at h; exact h.1
theorem sgn_le (gs : List (List UInt8)) (r : List UInt8) : sgn gs r ≤ r.length := by
 induction gs with
 | nil => exact Nat.zero_le _
 | cons g gs ih =>
  unfold sgn
  split
  ·exact preB_le (by assumption)
  ·exact ih
theorem numN_le (r : List UInt8) : numN r ≤ r.length := by
 have h1 := run_le dgB r
 unfold numN
 split
 ·split
  ·exact h1
  ·have h2 := run_le dgB (r.drop (run dgB r + 1))
   simp only [List.length_drop] at h2
   omega
 ·exact h1
theorem run_pos {p : UInt8 → Bool} {c : UInt8} (r : List UInt8) (h : p c = true) : 1 ≤ run p (c :: r) := by rw [run, if_pos h]; omega
theorem numN_pos {c : UInt8} (r : List UInt8) (h : dgB c = true) : 1 ≤ numN (c :: r) := by
 have := run_pos (p := dgB) r h
 unfold numN
 split
 ·split <;> omega
 ·omega
theorem endB_lt {r : List UInt8} (h : endB r = true) : 1 + run txB (r.drop 1) < r.length := by
 unfold endB at h
 apply Classical.byContradiction
 intro hn
 rw [List.drop_of_length_le (by omega)] at h
 simp at h
theorem tokN_bd (r : List UInt8) : tokN r ≤ r.length ∧ (tokK r ≠ 0 → 1 ≤ tokN r) ∧ (tokK r = 3 → 2 ≤ tokN r) ∧ (tokK r = 0 → tokN r = 0) := by
 cases r with
 | nil => simp [tokN, tokK]
 | cons c r =>
  unfold tokN tokK
  by_cases h1 : smB c = true
  ·simp only [h1, if_true]
   have := run_le nmB (c :: r)
   have := run_pos (p := nmB) r (show nmB c = true by simp [nmB, h1])
   exact ⟨by assumption, fun _ => by assumption, by simp, by simp⟩
  ·simp only [h1, if_false, Bool.false_eq_true]
   by_cases h2 : dgB c = true
   ·simp only [h2, if_true]
    exact ⟨numN_le _, fun _ => numN_pos r h2, by simp, by simp⟩
   ·simp only [h2, if_false, Bool.false_eq_true]
    by_cases h3 : c.toNat = 34
    ·simp only [h3, if_true]
     by_cases h4 : endB (c :: r) = true
     ·have := endB_lt h4
      simp only [h4, if_true]
      exact ⟨by omega, fun _ => by omega, fun _ => by omega, by simp⟩
     ·simp [h4]
    ·simp only [h3, if_false]
     have := sgn_le sgs (c :: r)
     by_cases h5 : sgn sgs (c :: r) = 0
     ·simp [h5]
     ·simp only [h5, if_false]
      exact ⟨this, fun _ => by omega, by simp, by simp⟩
theorem tokN_le (r : List UInt8) : tokN r ≤ r.length := (tokN_bd r).1
theorem tokE_kind {r : List UInt8} {n : Nat} (h : tokE r n = 0) : tokK r ≠ 0 := by
 intro e
 unfold tokE fltN flt at h
 rw [e] at h
 simp at h
section
variable {l : List UInt8} {at0 n : Nat}
theorem lex_end (h : l.length ≤ at0) : lexS (l.drop at0) 0 at0 n = ([], at0, 0) := by
 rw [List.drop_of_length_le h, lexS]
theorem lex_blank (h : at0 < l.length) (hb : blB l[at0] = true) : lexS (l.drop at0) 0 at0 n = lexS (l.drop (at0 + 1)) 0 (at0 + 1) n := by
 rw [drop_cons h, lexS, if_pos (by simpa [blB] using hb)]
theorem lex_err (h : at0 < l.length) (hb : blB l[at0] = false) (he : tokE (l.drop at0) n ≠ 0) : lexS (l.drop at0) 0 at0 n = ([], at0, tokE (l.drop at0) n) := by
 rw [drop_cons h] at he ⊢
 rw [lexS, if_neg (by simpa [blB] using hb), if_neg he]
theorem lex_tok (h : at0 < l.length) (hb : blB l[at0] = false) (he : tokE (l.drop at0) n = 0) :
  lexS (l.drop at0) 0 at0 n = consR (tokK (l.drop at0), tokT (l.drop at0), at0) (lexS (l.drop (at0 + tokN (l.drop at0))) 0 (at0 + tokN (l.drop at0)) (n + 1)) := by
 have hk := (tokN_bd (l.drop at0)).2.1 (tokE_kind he)
 have hl := tokN_le (l.drop at0)
 rw [drop_cons h] at he hk hl ⊢
 rw [lexS, if_neg (by simpa [blB] using hb), if_pos he, lexS_skip _ _ _ _ (by simp only [List.length_cons] at hl; omega), List.drop_drop]
 rw [show at0 + 1 + (tokN (l[at0] :: l.drop (at0 + 1)) - 1) = at0 + tokN (l[at0] :: l.drop (at0 + 1)) by omega]
end
theorem glue_cons (acc : List Tk) (t : Tk) (x : List Tk × Nat × Nat) : glue acc (consR t x) = glue (acc ++ [t]) x := by
 unfold glue consR
 by_cases h : x.2.2 = 0
 ·simp [h]
 ·simp [h]
theorem glue_nil (x : List Tk × Nat × Nat) (h : x.2.2 ≠ 0 → x.1 = []) : glue [] x = x := by
 unfold glue
 by_cases hx : x.2.2 = 0
 ·simp [hx]
 ·simp only [hx, if_false]
  rw [← h hx]
theorem lexS_none (r : List UInt8) : ∀ k pos n, (lexS r k pos n).2.2 ≠ 0 → (lexS r k pos n).1 = [] := by
 induction r with
 | nil => intro k pos n h; rfl
 | cons c r ih =>
  intro k pos n
  cases k with
  | succ k => rw [lexS]; exact ih k _ _
  | zero =>
   rw [lexS]
   split
   ·exact ih 0 _ _
   ·split
    ·unfold consR
     split
     ·intro h; simp_all
     ·intro _; rfl
    ·intro _; rfl
theorem lexT_glue {l : List UInt8} (h : l.length ≤ 200) : lexT l = glue [] (lexS (l.drop 0) 0 0 0) := by
 rw [glue_nil _ (lexS_none _ _ _ _)]
 unfold lexT
 rw [if_neg (by omega)]
 rfl
theorem glue_err (acc : List Tk) (p e : Nat) (h : e ≠ 0) : glue acc ([], p, e) = ([], p, e) := by unfold glue; simp [h]
theorem glue_ok (acc : List Tk) (p : Nat) : glue acc ([], p, 0) = (acc, p, 0) := by unfold glue; simp
end
section
def isDig (c : UInt8) : Bool := decide (48 ≤ c.toNat) && decide (c.toNat ≤ 57)
def num (l : List UInt8) : Int := l.foldl (fun n c => n * 10 + ((c.toNat : Int) - 48)) 0
theorem num_snoc (l : List UInt8) (c : UInt8) : num (l ++ [c]) = num l * 10 + ((c.toNat : Int) - 48) := by
 unfold num; rw [List.foldl_append]; rfl
theorem num_take (l : List UInt8) (k : Nat) (h : k < l.length) : num (l.take (k + 1)) = num (l.take k) * 10 + ((l[k].toNat : Int) - 48) := by
 rw [List.take_succ_eq_append_getElem h, num_snoc]
theorem isDig_bd {c : UInt8} (h : isDig c = true) : 48 ≤ (c.toNat : Int) ∧ (c.toNat : Int) ≤ 57 := by
 unfold isDig at h; simp at h; omega
theorem dig_get (l : List UInt8) (h : l.all isDig = true) (k : Nat) (hk : k < l.length) : isDig l[k] = true :=
 List.all_eq_true.1 h _ (List.getElem_mem hk)
theorem num_bd (l : List UInt8) (h : l.all isDig = true) (k : Nat) (hk : k ≤ l.length) : 0 ≤ num (l.take k) ∧ num (l.take k) + 1 ≤ p10 k := by
 induction k with
 | zero => simp [num, p10]
 | succ k ih =>
  have ⟨a, b⟩ := ih (by omega)
  have d := isDig_bd (dig_get l h k (by omega))
  rw [num_take l k (by omega), p10_succ]
  omega
theorem p10_18 {k : Nat} (h : k ≤ 18) : p10 k ≤ 1000000000000000000 := by
 have := p10_mono h
 have e : p10 18 = 1000000000000000000 := by decide
 omega
end
section
end
section
def Runs (l : List UInt8) (at0 k : Nat) : Prop := at0 + k ≤ l.length ∧ (∀ j (hj : at0 + j < l.length), j < k → isDig l[at0 + j] = true) ∧ (∀ hlt : at0 + k < l.length, isDig l[at0 + k] = false)
theorem isDig_yes {c : UInt8} (h1 : 48 ≤ (c.toNat : Int)) (h2 : (c.toNat : Int) ≤ 57) : isDig c = true := by unfold isDig; simp; omega
theorem isDig_no {c : UInt8} (h : (c.toNat : Int) < 48 ∨ 57 < (c.toNat : Int)) : isDig c = false := by
 unfold isDig
 rcases h with h | h
 ·simp; omega
 ·simp; omega
theorem rdigs_any (l : List UInt8) (at0 : Nat) (w : World) (hl : l.length ≤ 1000) (ha : at0 ≤ l.length) :
  Calls Tryz.prog 157 #[.string ⟨l.toArray⟩, .int .i64 at0] w fun e w' => (∃ k : Nat, e = .returned (.int .i64 k) ∧ Runs l at0 k) ∧ w' = w := by
 go_enter Tryz.func157, Tryz.ntmps157
 go_wp2_with fail
 go_loop [5] (fun n => ∃ k : Nat, at0 + k ≤ l.length ∧ n = .int .i64 k ∧ Hid (∀ j (hj : at0 + j < l.length), j < k → isDig l[at0 + j] = true)) (fun n => l.length - (intOf n).toNat)
 case atStart => exact ⟨0, by omega, rfl, hide (fun j _ h => absurd h (Nat.not_lt_zero _))⟩
 case round =>
  obtain ⟨k, hk, rfl, H⟩ := hrel
  by_cases hlt : at0 + k < l.length
  ·have hge : (⟨l.toArray⟩ : ByteArray)[at0 + k]'(by simpa [ByteArray.size] using hlt) = l[at0 + k] := rfl
   by_cases c1 : (l[at0 + k].toNat : Int) < 48
   ·have D := hide (isDig_no (c := l[at0 + k]) (Or.inl c1))
    go_wp2_with fail
    go_ret
    exact ⟨⟨k, rfl, hk, unhide H, fun _ => unhide D⟩, rfl⟩
   ·by_cases c2 : 57 < (l[at0 + k].toNat : Int)
    ·have D := hide (isDig_no (c := l[at0 + k]) (Or.inr c2))
     go_wp2_with fail
     go_ret
     exact ⟨⟨k, rfl, hk, unhide H, fun _ => unhide D⟩, rfl⟩
    ·have D := hide (isDig_yes (c := l[at0 + k]) (by omega) (by omega))
     go_wp2_with fail
     go_round
     case rel =>
      refine ⟨k + 1, by omega, by go_num, hide (fun j hj h => ?_)⟩
      by_cases e : j = k
      ·subst e; exact unhide D
      ·exact unhide H j hj (by omega)
     case measure => simp [intOf]; omega
  ·go_wp2_with fail
   go_ret
   exact ⟨⟨k, rfl, hk, unhide H, fun h => absurd h hlt⟩, rfl⟩
end
section
theorem irun_app {p : UInt8 → Bool} {A : List UInt8} (h : A.all p = true) (r : List UInt8) : run p (A ++ r) = A.length + run p r := by
 induction A with
 | nil => simp
 | cons c A ih =>
  simp only [List.all_cons, Bool.and_eq_true] at h
  rw [List.cons_append, run, if_pos h.1, ih h.2, List.length_cons]
  omega
theorem irun_self {A : List UInt8} (h : A.all isDig = true) : run isDig A = A.length := by
 have := irun_app h []
 rwa [List.append_nil, run, Nat.add_zero] at this
theorem irun_take (r : List UInt8) : (r.take (run isDig r)).all isDig = true := by
 rw [List.all_eq_true]
 intro c hc
 obtain ⟨i, hi, rfl⟩ := List.getElem_of_mem hc
 rw [List.length_take] at hi
 rw [List.getElem_take]
 exact run_in r i (by omega) (by omega)
theorem runs_eq {l : List UInt8} {at0 k : Nat} (h : Runs l at0 k) : k = run isDig (l.drop at0) := by
 obtain ⟨h1, h2, h3⟩ := h
 have e : l.drop at0 = (l.drop at0).take k ++ (l.drop at0).drop k := (List.take_append_drop _ _).symm
 have ha : ((l.drop at0).take k).all isDig = true := by
  rw [List.all_eq_true]
  intro c hc
  obtain ⟨i, hi, rfl⟩ := List.getElem_of_mem hc
  rw [List.length_take, List.length_drop] at hi
  rw [List.getElem_take, List.getElem_drop]
  exact h2 i (by omega) (by omega)
 have hl : ((l.drop at0).take k).length = k := by rw [List.length_take, List.length_drop]; omega
 rw [e, irun_app ha, hl]
 by_cases hlt : at0 + k < l.length
 ·rw [List.drop_drop, run_no hlt (h3 hlt)]; rfl
 ·rw [List.drop_drop, run_end (by omega)]; rfl
def Bad (r : List UInt8) : Prop :=
 run isDig r = 0 ∨ (∃ h : run isDig r < r.length, r[run isDig r].toNat ≠ 46) ∨
 (∃ h : run isDig r < r.length, 1 ≤ run isDig r ∧ r[run isDig r].toNat = 46 ∧ (run isDig (r.drop (run isDig r + 1)) = 0 ∨ run isDig r + 1 + run isDig (r.drop (run isDig r + 1)) < r.length))
theorem shapes (r : List UInt8) : Bad r ∨ (r.all isDig = true ∧ 1 ≤ r.length) ∨ ∃ a b, r = a ++ 46 :: b ∧ a.all isDig = true ∧ b.all isDig = true ∧ 1 ≤ a.length ∧ 1 ≤ b.length := by
 by_cases h0 : run isDig r = 0
 ·exact Or.inl (Or.inl h0)
 by_cases hl : run isDig r < r.length
 ·by_cases h46 : r[run isDig r].toNat = 46
  ·by_cases hb : run isDig (r.drop (run isDig r + 1)) = 0 ∨ run isDig r + 1 + run isDig (r.drop (run isDig r + 1)) < r.length
   ·exact Or.inl (Or.inr (Or.inr ⟨hl, by omega, h46, hb⟩))
   ·refine Or.inr (Or.inr ⟨r.take (run isDig r), r.drop (run isDig r + 1), ?_, irun_take r, ?_, ?_, ?_⟩)
    ·have : r[run isDig r] = 46 := UInt8.toNat.inj (by rw [h46]; rfl)
     rw [← this, ← drop_cons hl, List.take_append_drop]
    ·have h1 := irun_take (r.drop (run isDig r + 1))
     have h2 := run_le isDig (r.drop (run isDig r + 1))
     rw [List.length_drop] at h2
     rw [List.take_of_length_le (by rw [List.length_drop]; omega)] at h1
     exact h1
    ·rw [List.length_take]; omega
    ·have h2 := run_le isDig (r.drop (run isDig r + 1))
     omega
  ·exact Or.inl (Or.inr (Or.inl ⟨hl, h46⟩))
 ·have h1 := irun_take r
  have h2 := run_le isDig r
  rw [List.take_of_length_le (by omega)] at h1
  exact Or.inr (Or.inl ⟨h1, by omega⟩)
end
section
def fit3 (neg : Bool) (n : Int) (s : Nat) : Int × Int × Int :=
 (fitM (if neg = true then -n else n) s, fitS (if neg = true then -n else n) s, fitE (if neg = true then -n else n) s)
def decR (neg : Bool) (r : List UInt8) : Int × Int × Int :=
 if run isDig r = 0 then (0, 0, 2)
 else if run isDig r = r.length then (if 18 < r.length then (0, 0, 3) else fit3 neg (num r) 0)
 else if (r.drop (run isDig r)).head? = some 46 ∧ run isDig (r.drop (run isDig r + 1)) ≠ 0 ∧ run isDig r + 1 + run isDig (r.drop (run isDig r + 1)) = r.length then
  (if 18 < run isDig r + run isDig (r.drop (run isDig r + 1)) ∨ 8 < run isDig (r.drop (run isDig r + 1)) then (0, 0, 3) else fit3 neg (num (r.take (run isDig r) ++ r.drop (run isDig r + 1))) (run isDig (r.drop (run isDig r + 1))))
 else (0, 0, 2)
def decP (l : List UInt8) : Int × Int × Int := if l.head? = some 45 then decR true (l.drop 1) else decR false (l.drop 0)
abbrev Mk := List UInt8
inductive RX where
 | ok (x : XT) (k : Nat)
 | er (e : Int) (k : Nat)
inductive RL where
 | ok (l : List XT) (k : Nat)
 | er (e : Int) (k : Nat)
def mkB (ts : List Tk) (k : Nat) (m : Mk) : Bool :=
 match ts[k]? with
 | some t => t.1 == (if wordB m = true then 1 else 4) && t.2.1 == m
 | none => false
def fnd (ts : List Tk) (k : Nat) : List Mk → Option Mk
 | [] => none
 | m :: ms => if mkB ts k m = true then some m else fnd ts k ms
def strB (l : List UInt8) : ByteArray := ⟨l.toArray⟩
def binX (op : Mk) (x y : XT) : XT := .mkX 6 false 0 0 (strB op) false false [x, y]
def chainP (ts : List Tk) (part : Nat → RX) (ops : List Mk) : Nat → XT → Nat → RX
 | 0, x, k => .ok x k
 | f + 1, x, k => match fnd ts k ops with
  | none => .ok x k
  | some op => match part (k + 1) with
   | .er e k' => .er e k'
   | .ok y k' => chainP ts part ops f (binX op x y) k'
def chP (ts : List Tk) (part : Nat → RX) (ops : List Mk) (k : Nat) : RX :=
 match part k with
 | .er e k' => .er e k'
 | .ok x k' => chainP ts part ops ts.length x k'
def mOr : Mk := [111, 114]
def mAnd : Mk := [97, 110, 100]
def mIn : Mk := [105, 110]
def mIf : Mk := [105, 102]
def mThen : Mk := [116, 104, 101, 110]
def mElse : Mk := [101, 108, 115, 101]
def mNull : Mk := [110, 117, 108, 108]
def mTrue : Mk := [116, 114, 117, 101]
def mFalse : Mk := [102, 97, 108, 115, 101]
def mDots : Mk := [46, 46]
def mRels : List Mk := [[60], [60, 61], [62], [62, 61], [61], [33, 61]]
inductive RM where
 | ok (m : Mk) (x : XT) (k : Nat)
 | er (m : Mk) (e : Int) (k : Nat)
def behP (ts : List Tk) (e1 : Nat → RX) (ms : List Mk) (k : Nat) : RM :=
 match fnd ts k ms with
 | none => .er [] 2 k
 | some m => match e1 (k + 1) with
  | .er e k' => .er m e k'
  | .ok x k' => .ok m x k'
def inX (lo hi : Bool) (x a b : XT) : XT := .mkX 11 false 0 0 (strB []) lo hi [x, a, b]
def withinP (ts : List Tk) (e1 : Nat → RX) (x : XT) (k : Nat) : RX :=
 match behP ts e1 [[91], [40]] k with
 | .er _ e k' => .er e k'
 | .ok o a k1 => match behP ts e1 [mDots] k1 with
  | .er _ e k' => .er e k'
  | .ok _ b k2 => match fnd ts k2 [[93], [41]] with
   | none => .er 2 k2
   | some c => .ok (inX (o == [91]) (c == [93]) x a b) (k2 + 1)
def cmpP (ts : List Tk) (ad e1 : Nat → RX) (k : Nat) : RX :=
 match ad k with
 | .er e k' => .er e k'
 | .ok x k1 => if mkB ts k1 mIn = true then withinP ts e1 x (k1 + 1) else
  match fnd ts k1 mRels with
  | none => .ok x k1
  | some op => match ad (k1 + 1) with
   | .er e k' => .er e k'
   | .ok y k2 => .ok (binX op x y) k2
def restL (ts : List Tk) (e1 : Nat → RX) (shut : Mk) : Nat → List XT → Nat → RL
 | 0, _, k => .er 2 k
 | f + 1, acc, k => match e1 k with
  | .er e k' => .er e k'
  | .ok x k' => match fnd ts k' [[44], shut] with
   | none => .er 2 k'
   | some m => if m = shut then .ok (acc ++ [x]) (k' + 1) else restL ts e1 shut f (acc ++ [x]) (k' + 1)
def restP (ts : List Tk) (e1 : Nat → RX) (shut : Mk) (k : Nat) : RL :=
 if mkB ts k shut = true then .ok [] (k + 1) else restL ts e1 shut (ts.length + 1) [] k
def callX (t : Mk) (l : List XT) : XT := .mkX 10 false 0 0 (strB t) false false l
def nameX (t : Mk) : XT := .mkX 5 false 0 0 (strB t) false false []
def listX (l : List XT) : XT := .mkX 9 false 0 0 (strB []) false false l
def textX (t : Mk) : XT := .mkX 4 false 0 0 (strB t) false false []
def numX (m s : Int) : XT := .mkX 3 false m s (strB []) false false []
def boolX (b : Bool) : XT := .mkX 2 b 0 0 (strB []) false false []
def nullX : XT := .mkX 1 false 0 0 (strB []) false false []
def negX (x : XT) : XT := .mkX 7 false 0 0 (strB []) false false [x]
def ifX (x y z : XT) : XT := .mkX 8 false 0 0 (strB []) false false [x, y, z]
def choiceP (ts : List Tk) (e1 : Nat → RX) (k : Nat) : RX :=
 match behP ts e1 [mIf] k with
 | .er _ e k' => .er e k'
 | .ok _ x k1 => match behP ts e1 [mThen] k1 with
  | .er _ e k' => .er e k'
  | .ok _ y k2 => match behP ts e1 [mElse] k2 with
   | .er _ e k' => .er e k'
   | .ok _ z k3 => .ok (ifX x y z) k3
def constP (ts : List Tk) (k : Nat) : RX :=
 if mkB ts k mNull = true then .ok nullX (k + 1) else if mkB ts k mTrue = true then .ok (boolX true) (k + 1) else if mkB ts k mFalse = true then .ok (boolX false) (k + 1) else .er 2 k
def brackP (ts : List Tk) (e1 : Nat → RX) (k : Nat) : RX :=
 match e1 k with
 | .er e k' => .er e k'
 | .ok x k' => if mkB ts k' [41] = true then .ok x (k' + 1) else .er 2 k'
def numP (t : Mk) (k : Nat) : RX := if (decP t).2.2 = 0 then .ok (numX (decP t).1 (decP t).2.1) (k + 1) else .er (decP t).2.2 k
def namedP (ts : List Tk) (e1 : Nat → RX) (t : Mk) (k : Nat) : RX :=
 if mkB ts k [40] = true then (match restP ts e1 [41] (k + 1) with
  | .er e k' => .er e k'
  | .ok l k' => .ok (callX t l) k') else .ok (nameX t) k
def listedP (ts : List Tk) (e1 : Nat → RX) (k : Nat) : RX :=
 match restP ts e1 [93] k with
 | .er e k' => .er e k'
 | .ok l k' => .ok (listX l) k'
def signP (ts : List Tk) (e1 : Nat → RX) (k : Nat) : RX :=
 if mkB ts k [91] = true then listedP ts e1 (k + 1) else if mkB ts k [40] = true then brackP ts e1 (k + 1) else if mkB ts k mIf = true then choiceP ts e1 k else constP ts k
def atomP (ts : List Tk) (e1 : Nat → RX) (k : Nat) : RX :=
 match ts[k]? with
 | none => .er 2 k
 | some t => if t.1 = 2 then numP t.2.1 k else if t.1 = 3 then .ok (textX t.2.1) (k + 1) else if t.1 = 1 ∧ wordB t.2.1 = false then namedP ts e1 t.2.1 (k + 1) else signP ts e1 k
def unaryP (ts : List Tk) (u1 e1 : Nat → RX) (k : Nat) : RX :=
 if mkB ts k [45] = true then (match u1 (k + 1) with
  | .er e k' => .er e k'
  | .ok x k' => .ok (negX x) k') else atomP ts e1 k
def mulP (ts : List Tk) (u : Nat → RX) : Nat → RX := chP ts u [[42], [47]]
def addP (ts : List Tk) (u : Nat → RX) : Nat → RX := chP ts (mulP ts u) [[43], [45]]
def comP (ts : List Tk) (u e1 : Nat → RX) : Nat → RX := cmpP ts (addP ts u) e1
def andP (ts : List Tk) (u e1 : Nat → RX) : Nat → RX := chP ts (comP ts u e1) [mAnd]
def exprP (ts : List Tk) (u e1 : Nat → RX) : Nat → RX := chP ts (andP ts u e1) [mOr]
def UE (ts : List Tk) : Nat → (Nat → RX) × (Nat → RX)
 | 0 => (fun k => .er 12 k, exprP ts (fun k => .er 12 k) (fun k => .er 12 k))
 | f + 1 => (unaryP ts (UE ts f).1 (UE ts f).2, exprP ts (unaryP ts (UE ts f).1 (UE ts f).2) (UE ts f).2)
def posT (ts : List Tk) (k : Nat) (e : Int) : Int := match ts[k]? with
 | some t => t.2.2
 | none => e
def takeT (ts : List Tk) (k : Nat) (e : Int) : XT × Int × Int × Int :=
 match (UE ts 9).2 k with
 | .ok x k' => (x, k', 0, 0)
 | .er c k' => (zX, k, posT ts k' e, c)
def parseT (s : List UInt8) : XT × Int × Int :=
 match lexT s with
 | (ts, n, e) => if e ≠ 0 then (zX, n, e) else match (UE ts 9).2 0 with
  | .er c k' => (zX, posT ts k' n, c)
  | .ok x k' => if k' < ts.length then (zX, posT ts k' n, 2) else (x, n, 0)
end
end Go.Proofs.YtfdimdjmnfdecaaGreat

/- RDigs LMath PMath RPow TMod Ref RIs Ref2 RParse: laid together. -/
import Derived.Test.YtejnmkhdnhggcaaDoorSBB
import Derived.Test.YtejnmkhdnhggcaaDoorSAA
import Derived.Test.YtejnmkhdnhggcaaDoorSAB
/- The contract of the document's own digits: how many stand at a place. -/
namespace Go.Proofs.YtejnmkhdnhggcaaDoor
open Go.RowKit

/- from 'at0' on k digits stand, and no more. -/
def Runs (l : List UInt8) (at0 k : Nat) : Prop := at0 + k ≤ l.length ∧ (∀ j (hj : at0 + j < l.length), j < k → isDig l[at0 + j] = true) ∧ (∀ hlt : at0 + k < l.length, isDig l[at0 + k] = false)

theorem isDig_yes {c : UInt8} (h1 : 48 ≤ (c.toNat : Int)) (h2 : (c.toNat : Int) ≤ 57) : isDig c = true := by unfold isDig; simp; omega
theorem isDig_no {c : UInt8} (h : (c.toNat : Int) < 48 ∨ 57 < (c.toNat : Int)) : isDig c = false := by
  unfold isDig
  rcases h with h | h
  · simp; omega
  · simp; omega

set_option maxHeartbeats 800000 in
theorem rdigs_any (l : List UInt8) (at0 : Nat) (w : World) (hl : l.length ≤ 1000) (ha : at0 ≤ l.length) :
    Calls Tryd.prog 90 #[.string ⟨l.toArray⟩, .int .i64 at0] w fun e w' => (∃ k : Nat, e = .returned (.int .i64 k) ∧ Runs l at0 k) ∧ w' = w := by
  go_enter Tryd.func90, Tryd.ntmps90
  go_wp2_with fail
  go_loop [5] (fun n => ∃ k : Nat, at0 + k ≤ l.length ∧ n = .int .i64 k ∧ Hid (∀ j (hj : at0 + j < l.length), j < k → isDig l[at0 + j] = true)) (fun n => l.length - (intOf n).toNat)
  case atStart => exact ⟨0, by omega, rfl, hide (fun j _ h => absurd h (Nat.not_lt_zero _))⟩
  case round =>
    obtain ⟨k, hk, rfl, H⟩ := hrel
    by_cases hlt : at0 + k < l.length
    · have hge : (⟨l.toArray⟩ : ByteArray)[at0 + k]'(by simpa [ByteArray.size] using hlt) = l[at0 + k] := rfl
      by_cases c1 : (l[at0 + k].toNat : Int) < 48
      · have D := hide (isDig_no (c := l[at0 + k]) (Or.inl c1))
        go_wp2_with fail
        go_ret
        exact ⟨⟨k, rfl, hk, unhide H, fun _ => unhide D⟩, rfl⟩
      · by_cases c2 : 57 < (l[at0 + k].toNat : Int)
        · have D := hide (isDig_no (c := l[at0 + k]) (Or.inr c2))
          go_wp2_with fail
          go_ret
          exact ⟨⟨k, rfl, hk, unhide H, fun _ => unhide D⟩, rfl⟩
        · have D := hide (isDig_yes (c := l[at0 + k]) (by omega) (by omega))
          go_wp2_with fail
          go_round
          case rel =>
            refine ⟨k + 1, by omega, by go_num, hide (fun j hj h => ?_)⟩
            by_cases e : j = k
            · subst e; exact unhide D
            · exact unhide H j hj (by omega)
          case measure => simp [intOf]; omega
    · go_wp2_with fail
      go_ret
      exact ⟨⟨k, rfl, hk, unhide H, fun h => absurd h hlt⟩, rfl⟩
end Go.Proofs.YtejnmkhdnhggcaaDoor

/- The mathematics of tokens: what stands at a place, how long it is, what is wrong with it; a text's tokens. -/
namespace Go.Proofs.YtejnmkhdnhggcaaDoor

def smB (c : UInt8) : Bool := decide (97 ≤ c.toNat) && decide (c.toNat ≤ 122)
def dgB (c : UInt8) : Bool := decide (48 ≤ c.toNat) && decide (c.toNat ≤ 57)
def nmB (c : UInt8) : Bool := smB c || dgB c
def txB (c : UInt8) : Bool := decide (32 ≤ c.toNat) && decide (c.toNat ≤ 126) && !decide (c.toNat = 34)
def blB (c : UInt8) : Bool := decide (c.toNat = 32)

/- how many bytes of a kind stand ahead. -/
def run (p : UInt8 → Bool) : List UInt8 → Nat
  | [] => 0
  | c :: l => if p c = true then run p l + 1 else 0

theorem run_le (p : UInt8 → Bool) (l : List UInt8) : run p l ≤ l.length := by
  induction l with
  | nil => exact Nat.le_refl _
  | cons c l ih => unfold run; split <;> simp <;> omega
theorem drop_cons {l : List UInt8} {k : Nat} (h : k < l.length) : l.drop k = l[k] :: l.drop (k + 1) := List.drop_eq_getElem_cons h
theorem run_yes {p : UInt8 → Bool} {l : List UInt8} {k : Nat} (h : k < l.length) (hp : p l[k] = true) : k + run p (l.drop k) = (k + 1) + run p (l.drop (k + 1)) := by
  rw [drop_cons h, run, if_pos hp]; omega
theorem run_no {p : UInt8 → Bool} {l : List UInt8} {k : Nat} (h : k < l.length) (hp : p l[k] = false) : run p (l.drop k) = 0 := by
  rw [drop_cons h, run, if_neg (by simp [hp])]
theorem run_end {p : UInt8 → Bool} {l : List UInt8} {k : Nat} (h : l.length ≤ k) : run p (l.drop k) = 0 := by
  rw [List.drop_of_length_le h, run]
theorem run_in {p : UInt8 → Bool} (l : List UInt8) : ∀ j (h : j < l.length), j < run p l → p l[j] = true := by
  induction l with
  | nil => intro j h; exact absurd h (Nat.not_lt_zero _)
  | cons c l ih =>
    intro j h hj
    unfold run at hj
    split at hj
    · cases j with
      | zero => assumption
      | succ j => exact ih j (by simpa using h) (by omega)
    · exact absurd hj (Nat.not_lt_zero _)
theorem run_stop {p : UInt8 → Bool} (l : List UInt8) (h : run p l < l.length) : p l[run p l] = false := by
  induction l with
  | nil => exact absurd h (Nat.not_lt_zero _)
  | cons c l ih =>
    by_cases hp : p c = true
    · have e : run p (c :: l) = run p l + 1 := by rw [run, if_pos hp]
      simp only [e] at h ⊢
      simpa using ih (by simpa using h)
    · have e : run p (c :: l) = 0 := by rw [run, if_neg hp]
      simp only [e]
      simpa using hp

def sgs : List (List UInt8) := [[60, 61], [62, 61], [33, 61], [46, 46], [60], [62], [61], [43], [45], [42], [47], [40], [41], [91], [93], [44]]
def preB (g r : List UInt8) : Bool := decide (g.length ≤ r.length) && (r.take g.length == g)
def sgn : List (List UInt8) → List UInt8 → Nat
  | [], _ => 0
  | g :: gs, r => if preB g r = true then g.length else sgn gs r
def wds : List (List UInt8) := [[116, 114, 117, 101], [102, 97, 108, 115, 101], [110, 117, 108, 108], [105, 102], [116, 104, 101, 110], [101, 108, 115, 101], [97, 110, 100], [111, 114], [105, 110]]
def wordB (l : List UInt8) : Bool := wds.any (fun x => l == x)

/- a number's length. -/
def numN (r : List UInt8) : Nat :=
  if (r.drop (run dgB r)).head? = some 46 then
    if run dgB (r.drop (run dgB r + 1)) = 0 then run dgB r else run dgB r + 1 + run dgB (r.drop (run dgB r + 1))
  else run dgB r
/- does a text end? -/
def endB (r : List UInt8) : Bool := (r.drop (1 + run txB (r.drop 1))).head? == some 34

/- the kind of what stands ahead, and its length. -/
def tokK (r : List UInt8) : Nat :=
  match r with
  | [] => 0
  | c :: _ => if smB c = true then 1 else if dgB c = true then 2 else if c.toNat = 34 then (if endB r = true then 3 else 0) else if sgn sgs r = 0 then 0 else 4
def tokN (r : List UInt8) : Nat :=
  match r with
  | [] => 0
  | c :: _ => if smB c = true then run nmB r else if dgB c = true then numN r else if c.toNat = 34 then (if endB r = true then 1 + run txB (r.drop 1) + 1 else 0) else sgn sgs r
def saidL (k : Nat) (t : List UInt8) : List UInt8 := if k = 3 then (t.drop 1).take (t.length - 1 - 1) else t
def tokT (r : List UInt8) : List UInt8 := saidL (tokK r) (r.take (tokN r))
def flt (k : Nat) (t : List UInt8) : Nat := if k = 0 then 2 else if k = 1 ∧ 8 < t.length ∧ wordB t = false then 13 else if k = 3 ∧ 16 < t.length then 13 else 0
def fltN (k : Nat) (t : List UInt8) (n : Nat) : Nat := if flt k t = 0 ∧ 60 ≤ n then 13 else flt k t
def tokE (r : List UInt8) (n : Nat) : Nat := fltN (tokK r) (tokT r) n

abbrev Tk := Nat × List UInt8 × Nat
def consR (t : Tk) (x : List Tk × Nat × Nat) : List Tk × Nat × Nat := if x.2.2 = 0 then (t :: x.1, x.2) else ([], x.2)
def glue (acc : List Tk) (x : List Tk × Nat × Nat) : List Tk × Nat × Nat := if x.2.2 = 0 then (acc ++ x.1, x.2) else ([], x.2)
/- the tokens of the rest, behind k bytes more, at a place, behind n tokens. -/
def lexS : List UInt8 → Nat → Nat → Nat → List Tk × Nat × Nat
  | [], _, pos, _ => ([], pos, 0)
  | _ :: r, k + 1, pos, n => lexS r k (pos + 1) n
  | c :: r, 0, pos, n =>
    if c.toNat = 32 then lexS r 0 (pos + 1) n
    else if tokE (c :: r) n = 0 then consR (tokK (c :: r), tokT (c :: r), pos) (lexS r (tokN (c :: r) - 1) (pos + 1) (n + 1))
    else ([], pos, tokE (c :: r) n)
def lexT (l : List UInt8) : List Tk × Nat × Nat := if 200 < l.length then ([], 0, 13) else lexS l 0 0 0

theorem lexS_skip (r : List UInt8) : ∀ k pos n, k ≤ r.length → lexS r k pos n = lexS (r.drop k) 0 (pos + k) n := by
  induction r with
  | nil => intro k pos n h; have : k = 0 := by simpa using h
           subst this; rfl
  | cons c r ih =>
    intro k pos n h
    cases k with
    | zero => rfl
    | succ k =>
      rw [lexS, ih k (pos + 1) n (by simpa using h)]
      simp only [List.drop_succ_cons]
      rw [show pos + 1 + k = pos + (k + 1) by omega]
theorem preB_le {g r : List UInt8} (h : preB g r = true) : g.length ≤ r.length := by
  unfold preB at h; simp at h; exact h.1
theorem sgn_le (gs : List (List UInt8)) (r : List UInt8) : sgn gs r ≤ r.length := by
  induction gs with
  | nil => exact Nat.zero_le _
  | cons g gs ih =>
    unfold sgn
    split
    · exact preB_le (by assumption)
    · exact ih
theorem numN_le (r : List UInt8) : numN r ≤ r.length := by
  have h1 := run_le dgB r
  unfold numN
  split
  · split
    · exact h1
    · have h2 := run_le dgB (r.drop (run dgB r + 1))
      simp only [List.length_drop] at h2
      omega
  · exact h1
theorem run_pos {p : UInt8 → Bool} {c : UInt8} (r : List UInt8) (h : p c = true) : 1 ≤ run p (c :: r) := by rw [run, if_pos h]; omega
theorem numN_pos {c : UInt8} (r : List UInt8) (h : dgB c = true) : 1 ≤ numN (c :: r) := by
  have := run_pos (p := dgB) r h
  unfold numN
  split
  · split <;> omega
  · omega
theorem endB_lt {r : List UInt8} (h : endB r = true) : 1 + run txB (r.drop 1) < r.length := by
  unfold endB at h
  apply Classical.byContradiction
  intro hn
  rw [List.drop_of_length_le (by omega)] at h
  simp at h
theorem tokN_bd (r : List UInt8) : tokN r ≤ r.length ∧ (tokK r ≠ 0 → 1 ≤ tokN r) ∧ (tokK r = 3 → 2 ≤ tokN r) ∧ (tokK r = 0 → tokN r = 0) := by
  cases r with
  | nil => simp [tokN, tokK]
  | cons c r =>
    unfold tokN tokK
    by_cases h1 : smB c = true
    · simp only [h1, if_true]
      have := run_le nmB (c :: r)
      have := run_pos (p := nmB) r (show nmB c = true by simp [nmB, h1])
      exact ⟨by assumption, fun _ => by assumption, by simp, by simp⟩
    · simp only [h1, if_false, Bool.false_eq_true]
      by_cases h2 : dgB c = true
      · simp only [h2, if_true]
        exact ⟨numN_le _, fun _ => numN_pos r h2, by simp, by simp⟩
      · simp only [h2, if_false, Bool.false_eq_true]
        by_cases h3 : c.toNat = 34
        · simp only [h3, if_true]
          by_cases h4 : endB (c :: r) = true
          · have := endB_lt h4
            simp only [h4, if_true]
            exact ⟨by omega, fun _ => by omega, fun _ => by omega, by simp⟩
          · simp [h4]
        · simp only [h3, if_false]
          have := sgn_le sgs (c :: r)
          by_cases h5 : sgn sgs (c :: r) = 0
          · simp [h5]
          · simp only [h5, if_false]
            exact ⟨this, fun _ => by omega, by simp, by simp⟩
theorem tokN_le (r : List UInt8) : tokN r ≤ r.length := (tokN_bd r).1
theorem tokE_kind {r : List UInt8} {n : Nat} (h : tokE r n = 0) : tokK r ≠ 0 := by
  intro e
  unfold tokE fltN flt at h
  rw [e] at h
  simp at h

section
variable {l : List UInt8} {at0 n : Nat}
theorem lex_end (h : l.length ≤ at0) : lexS (l.drop at0) 0 at0 n = ([], at0, 0) := by
  rw [List.drop_of_length_le h, lexS]
theorem lex_blank (h : at0 < l.length) (hb : blB l[at0] = true) : lexS (l.drop at0) 0 at0 n = lexS (l.drop (at0 + 1)) 0 (at0 + 1) n := by
  rw [drop_cons h, lexS, if_pos (by simpa [blB] using hb)]
theorem lex_err (h : at0 < l.length) (hb : blB l[at0] = false) (he : tokE (l.drop at0) n ≠ 0) : lexS (l.drop at0) 0 at0 n = ([], at0, tokE (l.drop at0) n) := by
  rw [drop_cons h] at he ⊢
  rw [lexS, if_neg (by simpa [blB] using hb), if_neg he]
theorem lex_tok (h : at0 < l.length) (hb : blB l[at0] = false) (he : tokE (l.drop at0) n = 0) :
    lexS (l.drop at0) 0 at0 n = consR (tokK (l.drop at0), tokT (l.drop at0), at0) (lexS (l.drop (at0 + tokN (l.drop at0))) 0 (at0 + tokN (l.drop at0)) (n + 1)) := by
  have hk := (tokN_bd (l.drop at0)).2.1 (tokE_kind he)
  have hl := tokN_le (l.drop at0)
  rw [drop_cons h] at he hk hl ⊢
  rw [lexS, if_neg (by simpa [blB] using hb), if_pos he, lexS_skip _ _ _ _ (by simp only [List.length_cons] at hl; omega), List.drop_drop]
  rw [show at0 + 1 + (tokN (l[at0] :: l.drop (at0 + 1)) - 1) = at0 + tokN (l[at0] :: l.drop (at0 + 1)) by omega]
theorem lex_past (n : Nat) : ∀ m, l.length - at0 = m → lexS (l.drop at0) 0 at0 n = lexS (l.drop (at0 + run blB (l.drop at0))) 0 (at0 + run blB (l.drop at0)) n := by
  intro m
  induction m generalizing at0 with
  | zero => intro h; rw [run_end (p := blB) (by omega : l.length ≤ at0)]; rfl
  | succ m ih =>
    intro h
    have hlt : at0 < l.length := by omega
    cases hb : blB l[at0] with
    | false => rw [run_no (p := blB) hlt hb]; rfl
    | true => rw [lex_blank hlt hb, run_yes hlt hb]; exact ih (by omega)
end
theorem glue_cons (acc : List Tk) (t : Tk) (x : List Tk × Nat × Nat) : glue acc (consR t x) = glue (acc ++ [t]) x := by
  unfold glue consR
  by_cases h : x.2.2 = 0
  · simp [h]
  · simp [h]
theorem glue_nil (x : List Tk × Nat × Nat) (h : x.2.2 ≠ 0 → x.1 = []) : glue [] x = x := by
  unfold glue
  by_cases hx : x.2.2 = 0
  · simp [hx]
  · simp only [hx, if_false]
    rw [← h hx]
theorem lexS_none (r : List UInt8) : ∀ k pos n, (lexS r k pos n).2.2 ≠ 0 → (lexS r k pos n).1 = [] := by
  induction r with
  | nil => intro k pos n h; rfl
  | cons c r ih =>
    intro k pos n
    cases k with
    | succ k => rw [lexS]; exact ih k _ _
    | zero =>
      rw [lexS]
      split
      · exact ih 0 _ _
      · split
        · unfold consR
          split
          · intro h; simp_all
          · intro _; rfl
        · intro _; rfl
theorem lexT_glue {l : List UInt8} (h : l.length ≤ 200) : lexT l = glue [] (lexS (l.drop 0) 0 0 0) := by
  rw [glue_nil _ (lexS_none _ _ _ _)]
  unfold lexT
  rw [if_neg (by omega)]
  rfl
theorem glue_err (acc : List Tk) (p e : Nat) (h : e ≠ 0) : glue acc ([], p, e) = ([], p, e) := by unfold glue; simp [h]
theorem glue_ok (acc : List Tk) (p : Nat) : glue acc ([], p, 0) = (acc, p, 0) := by unfold glue; simp

end Go.Proofs.YtejnmkhdnhggcaaDoor

/- What a text of a decimal looks like: digits, a point, digits; and what else. -/
namespace Go.Proofs.YtejnmkhdnhggcaaDoor
set_option linter.unusedVariables false

theorem irun_app {p : UInt8 → Bool} {A : List UInt8} (h : A.all p = true) (r : List UInt8) : run p (A ++ r) = A.length + run p r := by
  induction A with
  | nil => simp
  | cons c A ih =>
    simp only [List.all_cons, Bool.and_eq_true] at h
    rw [List.cons_append, run, if_pos h.1, ih h.2, List.length_cons]
    omega
theorem irun_self {A : List UInt8} (h : A.all isDig = true) : run isDig A = A.length := by
  have := irun_app h []
  rwa [List.append_nil, run, Nat.add_zero] at this
theorem irun_take (r : List UInt8) : (r.take (run isDig r)).all isDig = true := by
  rw [List.all_eq_true]
  intro c hc
  obtain ⟨i, hi, rfl⟩ := List.getElem_of_mem hc
  rw [List.length_take] at hi
  rw [List.getElem_take]
  exact run_in r i (by omega) (by omega)
theorem runs_eq {l : List UInt8} {at0 k : Nat} (h : Runs l at0 k) : k = run isDig (l.drop at0) := by
  obtain ⟨h1, h2, h3⟩ := h
  have e : l.drop at0 = (l.drop at0).take k ++ (l.drop at0).drop k := (List.take_append_drop _ _).symm
  have ha : ((l.drop at0).take k).all isDig = true := by
    rw [List.all_eq_true]
    intro c hc
    obtain ⟨i, hi, rfl⟩ := List.getElem_of_mem hc
    rw [List.length_take, List.length_drop] at hi
    rw [List.getElem_take, List.getElem_drop]
    exact h2 i (by omega) (by omega)
  have hl : ((l.drop at0).take k).length = k := by rw [List.length_take, List.length_drop]; omega
  rw [e, irun_app ha, hl]
  by_cases hlt : at0 + k < l.length
  · rw [List.drop_drop, run_no hlt (h3 hlt)]; rfl
  · rw [List.drop_drop, run_end (by omega)]; rfl

theorem idx_app {a : List UInt8} (h : a.all isDig = true) (b : List UInt8) : Lib.indexByte (a ++ 46 :: b) 46 = a.length := by
  induction a with
  | nil => simp [Lib.indexByte]
  | cons c a ih =>
    simp only [List.all_cons, Bool.and_eq_true] at h
    have hc : c ≠ 46 := by
      intro e; rw [e] at h; exact absurd h.1 (by decide)
    rw [List.cons_append]
    unfold Lib.indexByte
    rw [ih h.2]
    simp [hc]
theorem idx_dig {a : List UInt8} (h : a.all isDig = true) : Lib.indexByte a 46 = -1 := by
  induction a with
  | nil => rfl
  | cons c a ih =>
    simp only [List.all_cons, Bool.and_eq_true] at h
    have hc : c ≠ 46 := by
      intro e; rw [e] at h; exact absurd h.1 (by decide)
    unfold Lib.indexByte
    rw [ih h.2]
    simp [hc]
theorem idx_at (r : List UInt8) (k : Nat) (h : Lib.indexByte r 46 = k) : ∃ hk : k < r.length, r[k] = 46 := by
  induction r generalizing k with
  | nil => simp [Lib.indexByte] at h
  | cons c r ih =>
    unfold Lib.indexByte at h
    by_cases hc : c = 46
    · rw [if_pos (by simpa using hc)] at h
      have : k = 0 := by omega
      subst this
      exact ⟨by simp, by simpa using hc⟩
    · rw [if_neg (by simpa using hc)] at h
      rcases idx_facts r 46 with e | ⟨j, e, hj⟩
      · rw [e] at h; simp at h
      · rw [e] at h
        have hk : k = j + 1 := by
          have : ¬ ((j : Int) == -1) = true := by simp
          simp only [this] at h
          omega
        subst hk
        obtain ⟨h1, h2⟩ := ih j e
        exact ⟨by simpa using hj, by simpa using h2⟩

/- what is no decimal. -/
def Bad (r : List UInt8) : Prop :=
  run isDig r = 0 ∨ (∃ h : run isDig r < r.length, r[run isDig r].toNat ≠ 46) ∨
  (∃ h : run isDig r < r.length, 1 ≤ run isDig r ∧ r[run isDig r].toNat = 46 ∧ (run isDig (r.drop (run isDig r + 1)) = 0 ∨ run isDig r + 1 + run isDig (r.drop (run isDig r + 1)) < r.length))
theorem digs_parts {a : List UInt8} (h : digs a = true) : a.all isDig = true ∧ 1 ≤ a.length := by
  unfold digs at h
  simp only [Bool.and_eq_true, Bool.not_eq_true', List.isEmpty_eq_false_iff] at h
  exact ⟨h.1, List.length_pos_iff.2 h.2⟩
theorem digs_mk {a : List UInt8} (h : a.all isDig = true) (hl : 1 ≤ a.length) : digs a = true := by
  unfold digs
  simp only [Bool.and_eq_true, Bool.not_eq_true', List.isEmpty_eq_false_iff]
  exact ⟨h, List.length_pos_iff.1 hl⟩
theorem bad_whole {r : List UInt8} (h : Bad r) : digs r = false := by
  cases hd : digs r with
  | false => rfl
  | true =>
    obtain ⟨h1, h2⟩ := digs_parts hd
    have e := irun_self h1
    exfalso
    rcases h with h | ⟨h, -⟩ | ⟨h, -⟩ <;> omega
theorem bad_both {r : List UInt8} (h : Bad r) {k : Nat} (hk : k < r.length) (hc : r[k] = 46) : digs (r.take k) = false ∨ (digs (r.take k) = true ∧ digs (r.drop (k + 1)) = false) := by
  cases hd : digs (r.take k) with
  | false => exact Or.inl rfl
  | true =>
    refine Or.inr ⟨rfl, ?_⟩
    cases hb : digs (r.drop (k + 1)) with
    | false => rfl
    | true =>
      exfalso
      obtain ⟨a1, a2⟩ := digs_parts hd
      obtain ⟨b1, b2⟩ := digs_parts hb
      have hl : (r.take k).length = k := by rw [List.length_take]; omega
      have er : r = r.take k ++ 46 :: r.drop (k + 1) := by
        rw [← hc, ← drop_cons hk, List.take_append_drop]
      have e : run isDig r = k := by
        rw [er, irun_app a1, hl]; rfl
      have eb := irun_self b1
      rw [List.length_drop] at eb b2
      rcases h with h | ⟨h, hx⟩ | ⟨h, h1, h46, hx⟩
      · omega
      · simp only [e] at hx
        rw [hc] at hx
        exact hx rfl
      · rw [e, eb] at hx
        omega
/- a text is a decimal's, or it is none. -/
theorem shapes (r : List UInt8) : Bad r ∨ (r.all isDig = true ∧ 1 ≤ r.length) ∨ ∃ a b, r = a ++ 46 :: b ∧ a.all isDig = true ∧ b.all isDig = true ∧ 1 ≤ a.length ∧ 1 ≤ b.length := by
  by_cases h0 : run isDig r = 0
  · exact Or.inl (Or.inl h0)
  by_cases hl : run isDig r < r.length
  · by_cases h46 : r[run isDig r].toNat = 46
    · by_cases hb : run isDig (r.drop (run isDig r + 1)) = 0 ∨ run isDig r + 1 + run isDig (r.drop (run isDig r + 1)) < r.length
      · exact Or.inl (Or.inr (Or.inr ⟨hl, by omega, h46, hb⟩))
      · refine Or.inr (Or.inr ⟨r.take (run isDig r), r.drop (run isDig r + 1), ?_, irun_take r, ?_, ?_, ?_⟩)
        · have : r[run isDig r] = 46 := UInt8.toNat.inj (by rw [h46]; rfl)
          rw [← this, ← drop_cons hl, List.take_append_drop]
        · have h1 := irun_take (r.drop (run isDig r + 1))
          have h2 := run_le isDig (r.drop (run isDig r + 1))
          rw [List.length_drop] at h2
          rw [List.take_of_length_le (by rw [List.length_drop]; omega)] at h1
          exact h1
        · rw [List.length_take]; omega
        · have h2 := run_le isDig (r.drop (run isDig r + 1))
          omega
    · exact Or.inl (Or.inr (Or.inl ⟨hl, h46⟩))
  · have h1 := irun_take r
    have h2 := run_le isDig r
    rw [List.take_of_length_le (by omega)] at h1
    exact Or.inr (Or.inl ⟨h1, by omega⟩)
end Go.Proofs.YtejnmkhdnhggcaaDoor

/- The contract of the document's own power. -/
namespace Go.Proofs.YtejnmkhdnhggcaaDoor
open Go.RowKit

set_option maxHeartbeats 400000 in
theorem rpower_any (n : Int) (w : World) (h0 : 0 ≤ n) (h8 : n ≤ 8) :
    Calls Tryd.prog 32 #[.int .i64 n] w fun e w' => e = .returned (.int .i64 (p10 n.toNat)) ∧ w' = w := by
  obtain ⟨m, rfl⟩ := Int.eq_ofNat_of_zero_le h0
  rw [Int.toNat_natCast]
  go_enter Tryd.func32, Tryd.ntmps32
  go_wp2
  go_loop [3, 4] (fun p i => ∃ k : Nat, k ≤ m ∧ i = .int .i64 k ∧ p = .int .i64 (p10 k)) (fun _ i => m - (intOf i).toNat)
  case atStart => exact ⟨0, Nat.zero_le _, rfl, rfl⟩
  case round =>
    obtain ⟨k, hk, rfl, rfl⟩ := hrel
    have b1 := p10_pos k
    have b2 := p10_bd (n := k) (by omega)
    by_cases hlt : k < m
    · go_wp2
      go_round
      case rel => exact ⟨k + 1, by omega, by go_num, by rw [p10_succ]⟩
      case measure => simp [intOf]; omega
    · have e : k = m := by omega
      subst e
      go_wp2
      go_ret
      exact ⟨rfl, rfl⟩

end Go.Proofs.YtejnmkhdnhggcaaDoor

/- Go's quotient and rest against the floor's; a number's last bit. -/
namespace Go.Proofs.YtejnmkhdnhggcaaDoor
open Go.RowKit

theorem i64_and1 (n : Int) : bits .and .i64 n 1 = n % 2 := by
  have h1 : (BitVec.ofInt 64 1).toNat = 2 ^ 1 - 1 := by decide
  have key : (BitVec.ofInt 64 n &&& BitVec.ofInt 64 1).toNat = (n % ((2 ^ 64 : Nat) : Int)).toNat % 2 ^ 1 := by
    rw [BitVec.toNat_and, BitVec.toNat_ofInt, h1, Nat.and_two_pow_sub_one_eq_mod]
  show IntKind.i64.wrap ((BitVec.ofInt 64 n &&& BitVec.ofInt 64 1).toNat : Nat) = n % 2
  rw [key, IntKind.wrap_i64]
  omega

theorem tmod_facts (n d : Int) (hd : 1 ≤ d) : (n.tmod d < 0 → n.tdiv d - 1 = n / d ∧ n.tmod d + d = n % d) ∧ (¬ n.tmod d < 0 → n.tdiv d = n / d ∧ n.tmod d = n % d) := by
  have ⟨a, b⟩ := tdiv_floor n d hd
  have he := Int.mul_tdiv_add_tmod n d
  have h3 := Int.mul_ediv_add_emod n d
  constructor
  · intro h
    refine ⟨a h, ?_⟩
    rw [← a h, Int.mul_sub] at h3
    omega
  · intro h
    refine ⟨b h, ?_⟩
    rw [← b h] at h3
    omega

end Go.Proofs.YtejnmkhdnhggcaaDoor

/- The contracts of the document's own small functions: power, half, Is, Fit. -/
namespace Go.Proofs.YtejnmkhdnhggcaaDoor
open Go.RowKit

set_option maxHeartbeats 800000 in
theorem rhalf_any (n d : Int) (w : World) (hd : 1 ≤ d) (hd2 : d ≤ 2000000000000000000) (h1 : -2000000000000000000 ≤ n) (h2 : n ≤ 2000000000000000000) :
    Calls Tryd.prog 92 #[.int .i64 n, .int .i64 d] w fun e w' => e = .returned (.int .i64 (half n d)) ∧ ∃ k, w' = w.drewN k := by
  have q1 := div_abs n d 2000000000000000000 hd (by omega) h1 h2
  have r1 := Int.emod_nonneg n (b := d) (by omega)
  have r2 := Int.emod_lt_of_pos n (b := d) (by omega)
  have tb := tdiv_bd n d 2000000000000000000 hd (by omega) h1 h2
  have ⟨fa, fb⟩ := tmod_facts n d hd
  have t2 := i64_and1 (n / d)
  unfold half
  generalize n / d = q at *
  generalize n % d = r at *
  by_cases hneg : n.tmod d < 0
  · have ⟨e1, e2⟩ := fa hneg
    have tb2 : -2000000000000000000 ≤ n.tmod d := by omega
    clear fa fb
    by_cases c1 : d - r < r
    · rw [if_pos (Or.inl (show d < 2 * r by omega))]
      clear t2
      go_enter Tryd.func92, Tryd.ntmps92
      go_wp2_with fail
      go_quiet (fail)
      go_wp2
      go_ret
      exact ⟨rfl, ⟨_, rfl⟩⟩
    · by_cases c2 : r = d - r
      · by_cases c3 : q % 2 ≠ 0
        · rw [if_pos (Or.inr ⟨show 2 * r = d by omega, c3⟩)]
          have t3 : (bits .and .i64 q 1 == 1) = true := by rw [t2]; simp; omega
          have c4 : (r == d - r) = true := by simp [← c2]
          clear t2 c2 c3
          go_enter Tryd.func92, Tryd.ntmps92
          go_wp2_with fail
          go_quiet (fail)
          go_wp2
          go_ret
          exact ⟨rfl, ⟨_, rfl⟩⟩
        · rw [if_neg (by omega)]
          have t3 : (bits .and .i64 q 1 == 1) = false := by rw [t2]; simp; omega
          have c4 : (r == d - r) = true := by simp [← c2]
          clear t2 c2 c3
          go_enter Tryd.func92, Tryd.ntmps92
          go_wp2_with fail
          go_quiet (fail)
          go_wp2
          go_ret
          exact ⟨rfl, ⟨_, rfl⟩⟩
      · rw [if_neg (by omega)]
        have c4 : (r == d - r) = false := by simpa using c2
        clear t2
        go_enter Tryd.func92, Tryd.ntmps92
        go_wp2_with fail
        go_quiet (fail)
        go_wp2
        go_ret
        exact ⟨rfl, ⟨_, rfl⟩⟩
  · have ⟨e1, e2⟩ := fb hneg
    clear fa fb
    rw [e1] at tb
    rw [e2] at hneg
    by_cases c1 : d - r < r
    · rw [if_pos (Or.inl (show d < 2 * r by omega))]
      clear t2
      go_enter Tryd.func92, Tryd.ntmps92
      go_wp2_with fail
      go_quiet (fail)
      go_wp2
      go_ret
      exact ⟨rfl, ⟨_, rfl⟩⟩
    · by_cases c2 : r = d - r
      · by_cases c3 : q % 2 ≠ 0
        · rw [if_pos (Or.inr ⟨show 2 * r = d by omega, c3⟩)]
          have t3 : (bits .and .i64 q 1 == 1) = true := by rw [t2]; simp; omega
          have c4 : (r == d - r) = true := by simp [← c2]
          clear t2 c2 c3
          go_enter Tryd.func92, Tryd.ntmps92
          go_wp2_with fail
          go_quiet (fail)
          go_wp2
          go_ret
          exact ⟨rfl, ⟨_, rfl⟩⟩
        · rw [if_neg (by omega)]
          have t3 : (bits .and .i64 q 1 == 1) = false := by rw [t2]; simp; omega
          have c4 : (r == d - r) = true := by simp [← c2]
          clear t2 c2 c3
          go_enter Tryd.func92, Tryd.ntmps92
          go_wp2_with fail
          go_quiet (fail)
          go_wp2
          go_ret
          exact ⟨rfl, ⟨_, rfl⟩⟩
      · rw [if_neg (by omega)]
        have c4 : (r == d - r) = false := by simpa using c2
        clear t2
        go_enter Tryd.func92, Tryd.ntmps92
        go_wp2_with fail
        go_quiet (fail)
        go_wp2
        go_ret
        exact ⟨rfl, ⟨_, rfl⟩⟩

theorem rhalf_below (n d : Int) (w : World) (hd : 1 ≤ d) (hd2 : d ≤ 2000000000000000000) (h1 : -2000000000000000000 ≤ n) (h2 : n ≤ 2000000000000000000) :
    Calls Tryd.prog 92 #[.int .i64 n, .int .i64 d] w fun e w' => e = .returned (.int .i64 (half n d)) ∧ Below w.heap.size w w' :=
  (rhalf_any n d w hd hd2 h1 h2).mono fun _ _ h => ⟨h.1, by obtain ⟨k, rfl⟩ := h.2; exact below_drewN (Below.refl _ _) _⟩

end Go.Proofs.YtejnmkhdnhggcaaDoor

/- The contract of the document's own Is. -/
namespace Go.Proofs.YtejnmkhdnhggcaaDoor
open Go.RowKit

set_option maxHeartbeats 400000 in
theorem ris_any (m s : Int) (w : World) :
    Calls Tryd.prog 16 #[.agg #[.int .i64 m, .int .i64 s]] w fun e w' => e = .returned (.bool (isB m s)) ∧ Below w.heap.size w w' := by
  unfold isB okM
  have tm := tmod10 m
  by_cases h1 : -1000000000 ≤ m
  · by_cases h1b : m ≤ 1000000000
    · by_cases h2 : 0 ≤ s
      · by_cases h3 : s ≤ 4
        · by_cases h4 : s = 0
          · subst h4
            clear tm
            go_enter Tryd.func16, Tryd.ntmps16
            go_wp2
            go_ret
            exact ⟨ret_bool (by simp [h1, h1b]), (Below.refl _ _).alloc (Nat.le_refl _) _⟩
          · have h4' : (s == 0) = false := by simpa using h4
            by_cases h5 : m % 10 = 0
            · have tm' : (m.tmod 10 != 0) = false := by unfold bne; rw [tm]; simp [h5]
              have H5 := hide h5
              have H4 := hide h4
              clear tm h4 h5
              go_enter Tryd.func16, Tryd.ntmps16
              go_wp2
              go_ret
              exact ⟨ret_bool (by have := unhide H5; have := unhide H4; simp [*]), (Below.refl _ _).alloc (Nat.le_refl _) _⟩
            · have tm' : (m.tmod 10 != 0) = true := by unfold bne; rw [tm]; simp [h5]
              have H5 := hide h5
              have H4 := hide h4
              clear tm h4 h5
              go_enter Tryd.func16, Tryd.ntmps16
              go_wp2
              go_ret
              exact ⟨ret_bool (by have := unhide H5; have := unhide H4; simp [*]), (Below.refl _ _).alloc (Nat.le_refl _) _⟩
        · clear tm
          go_enter Tryd.func16, Tryd.ntmps16
          go_wp2
          go_ret
          exact ⟨ret_bool (by have : ¬ s ≤ 4 := by omega
                              simp [this]), (Below.refl _ _).alloc (Nat.le_refl _) _⟩
      · clear tm
        go_enter Tryd.func16, Tryd.ntmps16
        go_wp2
        go_ret
        exact ⟨ret_bool (by have : ¬ 0 ≤ s := by omega
                            simp [this]), (Below.refl _ _).alloc (Nat.le_refl _) _⟩
    · clear tm
      go_enter Tryd.func16, Tryd.ntmps16
      go_wp2
      go_ret
      exact ⟨ret_bool (by have : ¬ m ≤ 1000000000 := by omega
                          simp [this]), (Below.refl _ _).alloc (Nat.le_refl _) _⟩
  · clear tm
    go_enter Tryd.func16, Tryd.ntmps16
    go_wp2
    go_ret
    exact ⟨ret_bool (by have : ¬ -1000000000 ≤ m := by omega
                        simp [this]), (Below.refl _ _).alloc (Nat.le_refl _) _⟩

end Go.Proofs.YtejnmkhdnhggcaaDoor

/- The contract of the document's own Fit. -/
namespace Go.Proofs.YtejnmkhdnhggcaaDoor
open Go.RowKit

set_option maxHeartbeats 400000 in
theorem rfit_arg (m s : Int) (w : World) (h : argB m s = true) :
    Calls Tryd.prog 91 #[.int .i64 m, .int .i64 s] w fun e w' => e = .returned (.tuple #[.agg #[.int .i64 0, .int .i64 0], .int .i64 1]) ∧ Below w.heap.size w w' := by
  unfold argB at h
  have h := of_decide_eq_true h
  by_cases c1 : m < -1000000000000000000
  · clear h
    go_enter Tryd.func91, Tryd.ntmps91
    go_wp2
    exact bodyPost_ret (v := .tuple #[.agg #[.int .i64 0, .int .i64 0], .int .i64 1]) (by simp [results, Tryd.results91, go_sem]) rfl ⟨rfl, (Below.refl _ _).alloc (Nat.le_refl _) _⟩
  · by_cases c2 : 1000000000000000000 < m
    · clear h
      go_enter Tryd.func91, Tryd.ntmps91
      go_wp2
      exact bodyPost_ret (v := .tuple #[.agg #[.int .i64 0, .int .i64 0], .int .i64 1]) (by simp [results, Tryd.results91, go_sem]) rfl ⟨rfl, (Below.refl _ _).alloc (Nat.le_refl _) _⟩
    · by_cases c3 : s < 0
      · clear h
        go_enter Tryd.func91, Tryd.ntmps91
        go_wp2
        exact bodyPost_ret (v := .tuple #[.agg #[.int .i64 0, .int .i64 0], .int .i64 1]) (by simp [results, Tryd.results91, go_sem]) rfl ⟨rfl, (Below.refl _ _).alloc (Nat.le_refl _) _⟩
      · have c4 : 8 < s := by omega
        clear h
        go_enter Tryd.func91, Tryd.ntmps91
        go_wp2
        exact bodyPost_ret (v := .tuple #[.agg #[.int .i64 0, .int .i64 0], .int .i64 1]) (by simp [results, Tryd.results91, go_sem]) rfl ⟨rfl, (Below.refl _ _).alloc (Nat.le_refl _) _⟩

set_option maxHeartbeats 800000 in
theorem rfit_in (m s : Int) (w : World) (m1 : -1000000000000000000 ≤ m) (m2 : m ≤ 1000000000000000000) (s1 : 0 ≤ s) (s2 : s ≤ 8) :
    Calls Tryd.prog 91 #[.int .i64 m, .int .i64 s] w fun e w' => e = .returned (.tuple #[.agg #[.int .i64 (fitTM m s.toNat (min s.toNat 4 + 1)), .int .i64 (fitTS m s.toNat (min s.toNat 4 + 1) : Nat)], .int .i64 (fitTE m s.toNat (min s.toNat 4 + 1))]) ∧ Below w.heap.size w w' := by
  obtain ⟨n, rfl⟩ := Int.eq_ofNat_of_zero_le s1
  rw [Int.toNat_natCast]
  have d1 : decide (m < -1000000000000000000) = false := decide_eq_false (by omega)
  have d2 : decide (1000000000000000000 < m) = false := decide_eq_false (by omega)
  have d3 : decide ((n : Int) < 0) = false := decide_eq_false (by omega)
  have d4 : decide (8 < (n : Int)) = false := decide_eq_false (by omega)
  generalize hk0 : min n 4 + 1 = k0
  have hk1 : k0 ≤ 5 := by omega
  have hk2 : k0 ≤ n + 1 := by omega
  have HK := hide hk0
  clear hk0
  by_cases h4 : n ≤ 4
  all_goals
    go_enter Tryd.func91, Tryd.ntmps91
    go_wp2_with fail
    go_loopw [6] (fun x wr => ∃ k : Nat, x = .int .i64 ((k : Int) - 1) ∧ k ≤ k0 ∧ Hid (fitTM m n k = fitTM m n k0 ∧ fitTS m n k = fitTS m n k0 ∧ fitTE m n k = fitTE m n k0) ∧ Below (w.alloc (Obj.cells #[.int .i64 0, .int .i64 0] 23)).heap.size (w.alloc (Obj.cells #[.int .i64 0, .int .i64 0] 23)) wr) (fun x _ => (intOf x + 1).toNat)
    case atStart => exact ⟨k0, by have := unhide HK; congr 1; omega, Nat.le_refl _, ⟨rfl, rfl, rfl⟩, Below.refl _ _⟩
    case round =>
      obtain ⟨k, rfl, hk, hh, b0⟩ := hrel
      match k, hk, hh with
      | 0, _, hh =>
        obtain ⟨c0, f0⟩ := bcell b0
        have z0 : w.heap.size < wr.heap.size := by have := b0.size; simp at this; omega
        go_wp2
        have e := unhide hh
        rw [← e.1, ← e.2.1, ← e.2.2]
        exact bodyPost_ret (v := .tuple #[.agg #[.int .i64 0, .int .i64 0], .int .i64 3]) (by simp [results, Tryd.results91, go_sem, c0]) rfl ⟨rfl, ((bstep (below1 w _) b0).setCell (by simp) _).setCell (by simp) _⟩
      | k + 1, hk, hh =>
        have e0 : (((k + 1 : Nat) : Int) - 1) = (k : Int) := by omega
        rw [e0]
        have pb := p10_pos (n - k)
        have pb2 := p10_bd (n := n - k) (by omega)
        go_wp2_with fail
        refine (rpower_any _ _ (by omega) (by omega)).mono ?_
        rintro e w' ⟨rfl, rfl⟩
        rw [show ((n : Int) - k).toNat = n - k by omega]
        go_wp2_with fail
        refine (rhalf_below _ _ _ pb (by omega) (by omega) (by omega)).mono ?_
        rintro e w1 ⟨rfl, k1⟩
        have b1 := bstep b0 k1
        clear b0 k1
        have u1 : fitTM m n (k + 1) = if okM (half m (p10 (n - k))) = true then trimM (half m (p10 (n - k))) k else fitTM m n k := rfl
        have u2 : fitTS m n (k + 1) = if okM (half m (p10 (n - k))) = true then trimS (half m (p10 (n - k))) k else fitTS m n k := rfl
        have u3 : fitTE m n (k + 1) = if okM (half m (p10 (n - k))) = true then 0 else fitTE m n k := rfl
        generalize half m (p10 (n - k)) = x at u1 u2 u3 ⊢
        have U1 := hide u1; have U2 := hide u2; have U3 := hide u3
        clear u1 u2 u3
        by_cases hx1 : -1000000000 ≤ x
        · by_cases hx2 : x ≤ 1000000000
          · have HOK := hide ((okM_iff x).2 ⟨hx1, hx2⟩)
            have e1 := unhide hh
            rw [unhide U1, unhide U2, unhide U3, if_pos (unhide HOK), if_pos (unhide HOK), if_pos (unhide HOK)] at e1
            have E1 := hide e1
            clear e1 U1 U2 U3 HOK hh
            obtain ⟨c1, f1⟩ := bcell b1
            have z1 : w.heap.size < w1.heap.size := by have := b1.size; simp at this; omega
            go_wp2
            go_loop [6, 7] (fun y v => ∃ (j : Nat) (a : Int), y = .int .i64 j ∧ v = .int .i64 a ∧ j ≤ 4 ∧ -1000000000 ≤ a ∧ a ≤ 1000000000 ∧ Hid (trimM a j = trimM x k ∧ trimS a j = trimS x k)) (fun y _ => (intOf y).toNat)
            case atStart => exact ⟨k, x, rfl, rfl, by omega, hx1, hx2, ⟨rfl, rfl⟩⟩
            case round =>
              obtain ⟨j, a, rfl, rfl, hj, a1, a2, hh2⟩ := hrel
              have tm := tmod10 a
              match j, hj, hh2 with
              | 0, _, hh2 =>
                clear tm
                go_wp2
                have e1 := unhide E1
                have e2 := unhide hh2
                rw [← e1.1, ← e1.2.1, ← e1.2.2, ← e2.1, ← e2.2]
                exact bodyPost_ret (v := .tuple #[.agg #[.int .i64 a, .int .i64 0], .int .i64 0]) (by simp [results, Tryd.results91, go_sem, c1]) rfl ⟨rfl, ((bstep (below1 w _) b1).setCell (by simp) _).setCell (by simp) _⟩
              | j + 1, hj, hh2 =>
                by_cases h10 : a % 10 = 0
                · have tm' : (a.tmod 10 == 0) = true := by rw [tm]; simp [h10]
                  have td := tdiv10 a h10
                  have H10 := hide h10
                  clear tm h10
                  go_wp2
                  go_round
                  case rel =>
                    have e := unhide hh2
                    have h := unhide H10
                    exact ⟨j, a / 10, by go_num, rfl, by omega, by omega, by omega, by rw [← e.1, ← e.2]; simp [Hid, trimM, trimS, h]⟩
                  case measure => simp [intOf]
                · have tm' : (a.tmod 10 == 0) = false := by rw [tm]; simp [h10]
                  have H10 := hide h10
                  clear tm h10
                  go_wp2
                  have e1 := unhide E1
                  have e2 := unhide hh2
                  have h := unhide H10
                  rw [← e1.1, ← e1.2.1, ← e1.2.2, ← e2.1, ← e2.2]
                  exact bodyPost_ret (v := .tuple #[.agg #[.int .i64 a, .int .i64 ((j + 1 : Nat) : Int)], .int .i64 0]) (by simp [results, Tryd.results91, go_sem, c1]) rfl ⟨by simp [trimM, trimS, h], ((bstep (below1 w _) b1).setCell (by simp) _).setCell (by simp) _⟩
          · have HOK := hide (mt (okM_iff x).1 (by omega))
            go_wp2
            go_roundw
            case rel =>
              have e1 := unhide hh
              rw [unhide U1, unhide U2, unhide U3, if_neg (unhide HOK), if_neg (unhide HOK), if_neg (unhide HOK)] at e1
              exact ⟨k, by go_num, by omega, e1, b1⟩
            case measure => simp [intOf]
        · have HOK := hide (mt (okM_iff x).1 (by omega))
          go_wp2
          go_roundw
          case rel =>
            have e1 := unhide hh
            rw [unhide U1, unhide U2, unhide U3, if_neg (unhide HOK), if_neg (unhide HOK), if_neg (unhide HOK)] at e1
            exact ⟨k, by go_num, by omega, e1, b1⟩
          case measure => simp [intOf]

theorem rfit_any (m s : Int) (w : World) :
    Calls Tryd.prog 91 #[.int .i64 m, .int .i64 s] w fun e w' => e = .returned (.tuple #[.agg #[.int .i64 (fitM m s), .int .i64 (fitS m s)], .int .i64 (fitE m s)]) ∧ Below w.heap.size w w' := by
  by_cases h : argB m s = true
  · have e1 : fitM m s = 0 := if_pos h
    have e2 : fitS m s = 0 := if_pos h
    have e3 : fitE m s = 1 := if_pos h
    rw [e1, e2, e3]
    exact rfit_arg m s w h
  · have e1 : fitM m s = _ := if_neg h
    have e2 : fitS m s = _ := if_neg h
    have e3 : fitE m s = _ := if_neg h
    rw [e1, e2, e3]
    unfold argB at h
    have h := mt (decide_eq_true (p := _)) h
    exact rfit_in m s w (by omega) (by omega) (by omega) (by omega)

end Go.Proofs.YtejnmkhdnhggcaaDoor

/- The contract of the document's own Parse. -/
namespace Go.Proofs.YtejnmkhdnhggcaaDoor
open Go.RowKit
set_option linter.unusedVariables false

theorem rdigs_run (l : List UInt8) (at0 : Nat) (w : World) (hl : l.length ≤ 1000) (ha : at0 ≤ l.length) :
    Calls Tryd.prog 90 #[.string ⟨l.toArray⟩, .int .i64 at0] w fun e w' => e = .returned (.int .i64 ((run isDig (l.drop at0) : Nat) : Int)) ∧ w' = w :=
  (rdigs_any l at0 w hl ha).mono fun e w' ⟨⟨k, h1, h2⟩, h3⟩ => ⟨by rw [h1, runs_eq h2], h3⟩

set_option maxHeartbeats 1600000 in
theorem rparse_nil (w : World) : Calls Tryd.prog 88 #[.string ⟨([] : List UInt8).toArray⟩] w fun e w' => e = .returned (.tuple #[.agg #[.int .i64 0, .int .i64 0], .int .i64 2]) ∧ Below w.heap.size w w' := by
  have D1 := hide (fun w => rdigs_run [] 0 w (by simp) (by simp))
  rw [show run isDig (([] : List UInt8).drop 0) = 0 from rfl] at D1
  go_enter Tryd.func88, Tryd.ntmps88
  go_wp2_with fail
  refine (unhide D1 _).mono ?_
  rintro e w1 ⟨rfl, rfl⟩
  go_wp2_with fail
  refine bodyPost_ret (v := .tuple #[.agg #[.int .i64 0, .int .i64 0], .int .i64 2]) (by simp [results, Tryd.results88, go_sem]) rfl ⟨rfl, ?_⟩
  exact below1 _ _

set_option maxHeartbeats 3200000 in
theorem rparse_bad_neg (l : List UInt8) (w : World) (hl : l.length ≤ 1000) (h0 : 0 < l.length) (h45 : l[0].toNat = 45) (hb : Bad (l.drop 1)) :
    Calls Tryd.prog 88 #[.string ⟨l.toArray⟩] w fun e w' => e = .returned (.tuple #[.agg #[.int .i64 0, .int .i64 0], .int .i64 2]) ∧ Below w.heap.size w w' := by
  have hg0 : (⟨l.toArray⟩ : ByteArray)[0]'(by simpa [ByteArray.size] using h0) = l[0] := rfl
  have e45 : ((l[0].toNat : Int) == 45) = true := by simp; omega
  have D1 := hide (fun w => rdigs_run l 1 w hl (by omega))
  have D2 := hide (fun (j : Nat) w (h : j ≤ l.length) => rdigs_run l j w hl h)
  have hle := run_le isDig (l.drop 1)
  rw [List.length_drop] at hle
  unfold Bad at hb
  simp only [List.getElem_drop, List.drop_drop, List.length_drop] at hb
  generalize run isDig (l.drop 1) = A at *
  clear h45
  by_cases hA : A = 0
  · subst hA
    go_enter Tryd.func88, Tryd.ntmps88
    go_wp2_with fail
    refine (unhide D1 _).mono ?_
    rintro e w1 ⟨rfl, rfl⟩
    go_wp2_with fail
    refine bodyPost_ret (v := .tuple #[.agg #[.int .i64 0, .int .i64 0], .int .i64 2]) (by simp [results, Tryd.results88, go_sem]) rfl ⟨rfl, ?_⟩
    exact below1 _ _
  have hA0 : (0 : Int) < (A : Int) := by omega
  have eA : ((A : Int) == 0) = false := by simp; omega
  rcases hb with hb | ⟨hlt, h46⟩ | ⟨hlt, -, h46, hb⟩
  · exact absurd hb hA
  · have hlt' : 1 + A < l.length := by omega
    have hgA : (⟨l.toArray⟩ : ByteArray)[1 + A]'(by simpa [ByteArray.size] using hlt') = l[1 + A] := rfl
    have e46 : ((l[1 + A].toNat : Int) == 46) = false := by
      have : l[1 + A].toNat ≠ 46 := by simpa using h46
      simp; omega
    have ene : ((1 : Int) + A != (l.length : Int)) = true := by simp; omega
    clear h46 hlt
    go_enter Tryd.func88, Tryd.ntmps88
    go_wp2_with fail
    refine (unhide D1 _).mono ?_
    rintro e w1 ⟨rfl, rfl⟩
    go_wp2_with fail
    refine bodyPost_ret (v := .tuple #[.agg #[.int .i64 0, .int .i64 0], .int .i64 2]) (by simp [results, Tryd.results88, go_sem]) rfl ⟨rfl, ?_⟩
    exact below1 _ _
  · have hlt' : 1 + A < l.length := by omega
    have hgA : (⟨l.toArray⟩ : ByteArray)[1 + A]'(by simpa [ByteArray.size] using hlt') = l[1 + A] := rfl
    have e46 : ((l[1 + A].toNat : Int) == 46) = true := by
      have : l[1 + A].toNat = 46 := by simpa using h46
      simp; omega
    have D2' := hide (fun w => unhide D2 (1 + A + 1) w (by omega))
    rw [show ((1 + A + 1 : Nat) : Int) = (1 : Int) + A + 1 by omega] at D2'
    have hle2 := run_le isDig (l.drop (1 + A + 1))
    rw [List.length_drop] at hle2
    have hb' : run isDig (l.drop (1 + A + 1)) = 0 ∨ 1 + A + 1 + run isDig (l.drop (1 + A + 1)) < l.length := by
      rcases hb with hb | hb
      · exact Or.inl (by simpa [Nat.add_assoc] using hb)
      · refine Or.inr ?_
        have e : 1 + (A + 1) = 1 + A + 1 := by omega
        rw [e] at hb
        omega
    clear D2 hb h46 hlt
    have D2 := D2'
    clear D2'
    generalize run isDig (l.drop (1 + A + 1)) = B at *
    by_cases hend : 1 + A + 1 + B = l.length
    · have hB : B = 0 := by omega
      subst hB
      have ene : ((1 : Int) + A + 1 != (l.length : Int)) = false := by simp; omega
      clear hb'
      go_enter Tryd.func88, Tryd.ntmps88
      go_wp2_with fail
      refine (unhide D1 _).mono ?_
      rintro e w1 ⟨rfl, rfl⟩
      go_wp2_with fail
      refine (unhide D2 _).mono ?_
      rintro e w1 ⟨rfl, rfl⟩
      go_wp2_with fail
      refine bodyPost_ret (v := .tuple #[.agg #[.int .i64 0, .int .i64 0], .int .i64 2]) (by simp [results, Tryd.results88, go_sem]) rfl ⟨rfl, ?_⟩
      exact below1 _ _
    · have ene : ((1 : Int) + A + 1 + B != (l.length : Int)) = true := by simp; omega
      clear hb'
      go_enter Tryd.func88, Tryd.ntmps88
      go_wp2_with fail
      refine (unhide D1 _).mono ?_
      rintro e w1 ⟨rfl, rfl⟩
      go_wp2_with fail
      refine (unhide D2 _).mono ?_
      rintro e w1 ⟨rfl, rfl⟩
      go_wp2_with fail
      refine bodyPost_ret (v := .tuple #[.agg #[.int .i64 0, .int .i64 0], .int .i64 2]) (by simp [results, Tryd.results88, go_sem]) rfl ⟨rfl, ?_⟩
      exact below1 _ _

set_option maxHeartbeats 3200000 in
theorem rparse_bad_pos (l : List UInt8) (w : World) (hl : l.length ≤ 1000) (h0 : 0 < l.length) (h45 : l[0].toNat ≠ 45) (hb : Bad (l.drop 0)) :
    Calls Tryd.prog 88 #[.string ⟨l.toArray⟩] w fun e w' => e = .returned (.tuple #[.agg #[.int .i64 0, .int .i64 0], .int .i64 2]) ∧ Below w.heap.size w w' := by
  have hg0 : (⟨l.toArray⟩ : ByteArray)[0]'(by simpa [ByteArray.size] using h0) = l[0] := rfl
  have e45 : ((l[0].toNat : Int) == 45) = false := by simp; omega
  have D1 := hide (fun w => rdigs_run l 0 w hl (by omega))
  have D2 := hide (fun (j : Nat) w (h : j ≤ l.length) => rdigs_run l j w hl h)
  have hle := run_le isDig (l.drop 0)
  rw [List.length_drop] at hle
  unfold Bad at hb
  simp only [List.getElem_drop, List.drop_drop, List.length_drop] at hb
  generalize run isDig (l.drop 0) = A at *
  clear h45
  by_cases hA : A = 0
  · subst hA
    go_enter Tryd.func88, Tryd.ntmps88
    go_wp2_with fail
    refine (unhide D1 _).mono ?_
    rintro e w1 ⟨rfl, rfl⟩
    go_wp2_with fail
    refine bodyPost_ret (v := .tuple #[.agg #[.int .i64 0, .int .i64 0], .int .i64 2]) (by simp [results, Tryd.results88, go_sem]) rfl ⟨rfl, ?_⟩
    exact below1 _ _
  have hA0 : (0 : Int) < (A : Int) := by omega
  have eA : ((A : Int) == 0) = false := by simp; omega
  rcases hb with hb | ⟨hlt, h46⟩ | ⟨hlt, -, h46, hb⟩
  · exact absurd hb hA
  · have hlt' : A < l.length := by omega
    have hgA : (⟨l.toArray⟩ : ByteArray)[A]'(by simpa [ByteArray.size] using hlt') = l[A] := rfl
    have e46 : ((l[A].toNat : Int) == 46) = false := by
      have : l[A].toNat ≠ 46 := by simpa using h46
      simp; omega
    have ene : ((A : Int) != (l.length : Int)) = true := by simp; omega
    clear h46 hlt
    go_enter Tryd.func88, Tryd.ntmps88
    go_wp2_with fail
    refine (unhide D1 _).mono ?_
    rintro e w1 ⟨rfl, rfl⟩
    go_wp2_with fail
    refine bodyPost_ret (v := .tuple #[.agg #[.int .i64 0, .int .i64 0], .int .i64 2]) (by simp [results, Tryd.results88, go_sem]) rfl ⟨rfl, ?_⟩
    exact below1 _ _
  · have hlt' : A < l.length := by omega
    have hgA : (⟨l.toArray⟩ : ByteArray)[A]'(by simpa [ByteArray.size] using hlt') = l[A] := rfl
    have e46 : ((l[A].toNat : Int) == 46) = true := by
      have : l[A].toNat = 46 := by simpa using h46
      simp; omega
    have D2' := hide (fun w => unhide D2 (A + 1) w (by omega))
    rw [show ((A + 1 : Nat) : Int) = (A : Int) + 1 by omega] at D2'
    have hle2 := run_le isDig (l.drop (A + 1))
    rw [List.length_drop] at hle2
    have hb' : run isDig (l.drop (A + 1)) = 0 ∨ A + 1 + run isDig (l.drop (A + 1)) < l.length := by
      rcases hb with hb | hb
      · exact Or.inl (by simpa [Nat.add_assoc] using hb)
      · refine Or.inr ?_
        have e : 0 + (A + 1) = A + 1 := by omega
        rw [e] at hb
        omega
    clear D2 hb h46 hlt
    have D2 := D2'
    clear D2'
    generalize run isDig (l.drop (A + 1)) = B at *
    by_cases hend : A + 1 + B = l.length
    · have hB : B = 0 := by omega
      subst hB
      have ene : ((A : Int) + 1 != (l.length : Int)) = false := by simp; omega
      clear hb'
      go_enter Tryd.func88, Tryd.ntmps88
      go_wp2_with fail
      refine (unhide D1 _).mono ?_
      rintro e w1 ⟨rfl, rfl⟩
      go_wp2_with fail
      refine (unhide D2 _).mono ?_
      rintro e w1 ⟨rfl, rfl⟩
      go_wp2_with fail
      refine bodyPost_ret (v := .tuple #[.agg #[.int .i64 0, .int .i64 0], .int .i64 2]) (by simp [results, Tryd.results88, go_sem]) rfl ⟨rfl, ?_⟩
      exact below1 _ _
    · have ene : ((A : Int) + 1 + B != (l.length : Int)) = true := by simp; omega
      clear hb'
      go_enter Tryd.func88, Tryd.ntmps88
      go_wp2_with fail
      refine (unhide D1 _).mono ?_
      rintro e w1 ⟨rfl, rfl⟩
      go_wp2_with fail
      refine (unhide D2 _).mono ?_
      rintro e w1 ⟨rfl, rfl⟩
      go_wp2_with fail
      refine bodyPost_ret (v := .tuple #[.agg #[.int .i64 0, .int .i64 0], .int .i64 2]) (by simp [results, Tryd.results88, go_sem]) rfl ⟨rfl, ?_⟩
      exact below1 _ _

end Go.Proofs.YtejnmkhdnhggcaaDoor

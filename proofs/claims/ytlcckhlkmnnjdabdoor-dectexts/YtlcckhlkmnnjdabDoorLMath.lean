/- The mathematics of tokens: what stands at a place, how long it is, what is wrong with it; a text's tokens. -/
namespace Go.Proofs.YtlcckhlkmnnjdabDoor

def smB (c : UInt8) : Bool := decide (97 ≤ c.toNat) && decide (c.toNat ≤ 122)
def dgB (c : UInt8) : Bool := decide (48 ≤ c.toNat) && decide (c.toNat ≤ 57)
def nmB (c : UInt8) : Bool := smB c || dgB c
def txB (c : UInt8) : Bool := decide (32 ≤ c.toNat) && decide (c.toNat ≤ 126) && !decide (c.toNat = 34)
def blB (c : UInt8) : Bool := decide (c.toNat = 32)

/- how many bytes of a kind stand ahead. -/
def run (p : UInt8 → Bool) : List UInt8 → Nat
  | [] => 0
  | c :: l => if p c = true then run p l + 1 else 0

theorem run_le (p : UInt8 → Bool) (l : List UInt8) : run p l ≤ l.length := by
  induction l with
  | nil => exact Nat.le_refl _
  | cons c l ih => unfold run; split <;> simp <;> omega
theorem drop_cons {l : List UInt8} {k : Nat} (h : k < l.length) : l.drop k = l[k] :: l.drop (k + 1) := List.drop_eq_getElem_cons h
theorem run_yes {p : UInt8 → Bool} {l : List UInt8} {k : Nat} (h : k < l.length) (hp : p l[k] = true) : k + run p (l.drop k) = (k + 1) + run p (l.drop (k + 1)) := by
  rw [drop_cons h, run, if_pos hp]; omega
theorem run_no {p : UInt8 → Bool} {l : List UInt8} {k : Nat} (h : k < l.length) (hp : p l[k] = false) : run p (l.drop k) = 0 := by
  rw [drop_cons h, run, if_neg (by simp [hp])]
theorem run_end {p : UInt8 → Bool} {l : List UInt8} {k : Nat} (h : l.length ≤ k) : run p (l.drop k) = 0 := by
  rw [List.drop_of_length_le h, run]
theorem run_in {p : UInt8 → Bool} (l : List UInt8) : ∀ j (h : j < l.length), j < run p l → p l[j] = true := by
  induction l with
  | nil => intro j h; exact absurd h (Nat.not_lt_zero _)
  | cons c l ih =>
    intro j h hj
    unfold run at hj
    split at hj
    · cases j with
      | zero => assumption
      | succ j => exact ih j (by simpa using h) (by omega)
    · exact absurd hj (Nat.not_lt_zero _)
theorem run_stop {p : UInt8 → Bool} (l : List UInt8) (h : run p l < l.length) : p l[run p l] = false := by
  induction l with
  | nil => exact absurd h (Nat.not_lt_zero _)
  | cons c l ih =>
    by_cases hp : p c = true
    · have e : run p (c :: l) = run p l + 1 := by rw [run, if_pos hp]
      simp only [e] at h ⊢
      simpa using ih (by simpa using h)
    · have e : run p (c :: l) = 0 := by rw [run, if_neg hp]
      simp only [e]
      simpa using hp

def sgs : List (List UInt8) := [[60, 61], [62, 61], [33, 61], [46, 46], [60], [62], [61], [43], [45], [42], [47], [40], [41], [91], [93], [44]]
def preB (g r : List UInt8) : Bool := decide (g.length ≤ r.length) && (r.take g.length == g)
def sgn : List (List UInt8) → List UInt8 → Nat
  | [], _ => 0
  | g :: gs, r => if preB g r = true then g.length else sgn gs r
def wds : List (List UInt8) := [[116, 114, 117, 101], [102, 97, 108, 115, 101], [110, 117, 108, 108], [105, 102], [116, 104, 101, 110], [101, 108, 115, 101], [97, 110, 100], [111, 114], [105, 110]]
def wordB (l : List UInt8) : Bool := wds.any (fun x => l == x)

/- a number's length. -/
def numN (r : List UInt8) : Nat :=
  if (r.drop (run dgB r)).head? = some 46 then
    if run dgB (r.drop (run dgB r + 1)) = 0 then run dgB r else run dgB r + 1 + run dgB (r.drop (run dgB r + 1))
  else run dgB r
/- does a text end? -/
def endB (r : List UInt8) : Bool := (r.drop (1 + run txB (r.drop 1))).head? == some 34

/- the kind of what stands ahead, and its length. -/
def tokK (r : List UInt8) : Nat :=
  match r with
  | [] => 0
  | c :: _ => if smB c = true then 1 else if dgB c = true then 2 else if c.toNat = 34 then (if endB r = true then 3 else 0) else if sgn sgs r = 0 then 0 else 4
def tokN (r : List UInt8) : Nat :=
  match r with
  | [] => 0
  | c :: _ => if smB c = true then run nmB r else if dgB c = true then numN r else if c.toNat = 34 then (if endB r = true then 1 + run txB (r.drop 1) + 1 else 0) else sgn sgs r
def saidL (k : Nat) (t : List UInt8) : List UInt8 := if k = 3 then (t.drop 1).take (t.length - 1 - 1) else t
def tokT (r : List UInt8) : List UInt8 := saidL (tokK r) (r.take (tokN r))
def flt (k : Nat) (t : List UInt8) : Nat := if k = 0 then 2 else if k = 1 ∧ 8 < t.length ∧ wordB t = false then 13 else if k = 3 ∧ 16 < t.length then 13 else 0
def fltN (k : Nat) (t : List UInt8) (n : Nat) : Nat := if flt k t = 0 ∧ 60 ≤ n then 13 else flt k t
def tokE (r : List UInt8) (n : Nat) : Nat := fltN (tokK r) (tokT r) n

abbrev Tk := Nat × List UInt8 × Nat
def consR (t : Tk) (x : List Tk × Nat × Nat) : List Tk × Nat × Nat := if x.2.2 = 0 then (t :: x.1, x.2) else ([], x.2)
def glue (acc : List Tk) (x : List Tk × Nat × Nat) : List Tk × Nat × Nat := if x.2.2 = 0 then (acc ++ x.1, x.2) else ([], x.2)
/- the tokens of the rest, behind k bytes more, at a place, behind n tokens. -/
def lexS : List UInt8 → Nat → Nat → Nat → List Tk × Nat × Nat
  | [], _, pos, _ => ([], pos, 0)
  | _ :: r, k + 1, pos, n => lexS r k (pos + 1) n
  | c :: r, 0, pos, n =>
    if c.toNat = 32 then lexS r 0 (pos + 1) n
    else if tokE (c :: r) n = 0 then consR (tokK (c :: r), tokT (c :: r), pos) (lexS r (tokN (c :: r) - 1) (pos + 1) (n + 1))
    else ([], pos, tokE (c :: r) n)
def lexT (l : List UInt8) : List Tk × Nat × Nat := if 200 < l.length then ([], 0, 13) else lexS l 0 0 0

theorem lexS_skip (r : List UInt8) : ∀ k pos n, k ≤ r.length → lexS r k pos n = lexS (r.drop k) 0 (pos + k) n := by
  induction r with
  | nil => intro k pos n h; have : k = 0 := by simpa using h
           subst this; rfl
  | cons c r ih =>
    intro k pos n h
    cases k with
    | zero => rfl
    | succ k =>
      rw [lexS, ih k (pos + 1) n (by simpa using h)]
      simp only [List.drop_succ_cons]
      rw [show pos + 1 + k = pos + (k + 1) by omega]
theorem preB_le {g r : List UInt8} (h : preB g r = true) : g.length ≤ r.length := by
  unfold preB at h; simp at h; exact h.1
theorem sgn_le (gs : List (List UInt8)) (r : List UInt8) : sgn gs r ≤ r.length := by
  induction gs with
  | nil => exact Nat.zero_le _
  | cons g gs ih =>
    unfold sgn
    split
    · exact preB_le (by assumption)
    · exact ih
theorem numN_le (r : List UInt8) : numN r ≤ r.length := by
  have h1 := run_le dgB r
  unfold numN
  split
  · split
    · exact h1
    · have h2 := run_le dgB (r.drop (run dgB r + 1))
      simp only [List.length_drop] at h2
      omega
  · exact h1
theorem run_pos {p : UInt8 → Bool} {c : UInt8} (r : List UInt8) (h : p c = true) : 1 ≤ run p (c :: r) := by rw [run, if_pos h]; omega
theorem numN_pos {c : UInt8} (r : List UInt8) (h : dgB c = true) : 1 ≤ numN (c :: r) := by
  have := run_pos (p := dgB) r h
  unfold numN
  split
  · split <;> omega
  · omega
theorem endB_lt {r : List UInt8} (h : endB r = true) : 1 + run txB (r.drop 1) < r.length := by
  unfold endB at h
  apply Classical.byContradiction
  intro hn
  rw [List.drop_of_length_le (by omega)] at h
  simp at h
theorem tokN_bd (r : List UInt8) : tokN r ≤ r.length ∧ (tokK r ≠ 0 → 1 ≤ tokN r) ∧ (tokK r = 3 → 2 ≤ tokN r) ∧ (tokK r = 0 → tokN r = 0) := by
  cases r with
  | nil => simp [tokN, tokK]
  | cons c r =>
    unfold tokN tokK
    by_cases h1 : smB c = true
    · simp only [h1, if_true]
      have := run_le nmB (c :: r)
      have := run_pos (p := nmB) r (show nmB c = true by simp [nmB, h1])
      exact ⟨by assumption, fun _ => by assumption, by simp, by simp⟩
    · simp only [h1, if_false, Bool.false_eq_true]
      by_cases h2 : dgB c = true
      · simp only [h2, if_true]
        exact ⟨numN_le _, fun _ => numN_pos r h2, by simp, by simp⟩
      · simp only [h2, if_false, Bool.false_eq_true]
        by_cases h3 : c.toNat = 34
        · simp only [h3, if_true]
          by_cases h4 : endB (c :: r) = true
          · have := endB_lt h4
            simp only [h4, if_true]
            exact ⟨by omega, fun _ => by omega, fun _ => by omega, by simp⟩
          · simp [h4]
        · simp only [h3, if_false]
          have := sgn_le sgs (c :: r)
          by_cases h5 : sgn sgs (c :: r) = 0
          · simp [h5]
          · simp only [h5, if_false]
            exact ⟨this, fun _ => by omega, by simp, by simp⟩
theorem tokN_le (r : List UInt8) : tokN r ≤ r.length := (tokN_bd r).1
theorem tokE_kind {r : List UInt8} {n : Nat} (h : tokE r n = 0) : tokK r ≠ 0 := by
  intro e
  unfold tokE fltN flt at h
  rw [e] at h
  simp at h

section
variable {l : List UInt8} {at0 n : Nat}
theorem lex_end (h : l.length ≤ at0) : lexS (l.drop at0) 0 at0 n = ([], at0, 0) := by
  rw [List.drop_of_length_le h, lexS]
theorem lex_blank (h : at0 < l.length) (hb : blB l[at0] = true) : lexS (l.drop at0) 0 at0 n = lexS (l.drop (at0 + 1)) 0 (at0 + 1) n := by
  rw [drop_cons h, lexS, if_pos (by simpa [blB] using hb)]
theorem lex_err (h : at0 < l.length) (hb : blB l[at0] = false) (he : tokE (l.drop at0) n ≠ 0) : lexS (l.drop at0) 0 at0 n = ([], at0, tokE (l.drop at0) n) := by
  rw [drop_cons h] at he ⊢
  rw [lexS, if_neg (by simpa [blB] using hb), if_neg he]
theorem lex_tok (h : at0 < l.length) (hb : blB l[at0] = false) (he : tokE (l.drop at0) n = 0) :
    lexS (l.drop at0) 0 at0 n = consR (tokK (l.drop at0), tokT (l.drop at0), at0) (lexS (l.drop (at0 + tokN (l.drop at0))) 0 (at0 + tokN (l.drop at0)) (n + 1)) := by
  have hk := (tokN_bd (l.drop at0)).2.1 (tokE_kind he)
  have hl := tokN_le (l.drop at0)
  rw [drop_cons h] at he hk hl ⊢
  rw [lexS, if_neg (by simpa [blB] using hb), if_pos he, lexS_skip _ _ _ _ (by simp only [List.length_cons] at hl; omega), List.drop_drop]
  rw [show at0 + 1 + (tokN (l[at0] :: l.drop (at0 + 1)) - 1) = at0 + tokN (l[at0] :: l.drop (at0 + 1)) by omega]
theorem lex_past (n : Nat) : ∀ m, l.length - at0 = m → lexS (l.drop at0) 0 at0 n = lexS (l.drop (at0 + run blB (l.drop at0))) 0 (at0 + run blB (l.drop at0)) n := by
  intro m
  induction m generalizing at0 with
  | zero => intro h; rw [run_end (p := blB) (by omega : l.length ≤ at0)]; rfl
  | succ m ih =>
    intro h
    have hlt : at0 < l.length := by omega
    cases hb : blB l[at0] with
    | false => rw [run_no (p := blB) hlt hb]; rfl
    | true => rw [lex_blank hlt hb, run_yes hlt hb]; exact ih (by omega)
end
theorem glue_cons (acc : List Tk) (t : Tk) (x : List Tk × Nat × Nat) : glue acc (consR t x) = glue (acc ++ [t]) x := by
  unfold glue consR
  by_cases h : x.2.2 = 0
  · simp [h]
  · simp [h]
theorem glue_nil (x : List Tk × Nat × Nat) (h : x.2.2 ≠ 0 → x.1 = []) : glue [] x = x := by
  unfold glue
  by_cases hx : x.2.2 = 0
  · simp [hx]
  · simp only [hx, if_false]
    rw [← h hx]
theorem lexS_none (r : List UInt8) : ∀ k pos n, (lexS r k pos n).2.2 ≠ 0 → (lexS r k pos n).1 = [] := by
  induction r with
  | nil => intro k pos n h; rfl
  | cons c r ih =>
    intro k pos n
    cases k with
    | succ k => rw [lexS]; exact ih k _ _
    | zero =>
      rw [lexS]
      split
      · exact ih 0 _ _
      · split
        · unfold consR
          split
          · intro h; simp_all
          · intro _; rfl
        · intro _; rfl
theorem lexT_glue {l : List UInt8} (h : l.length ≤ 200) : lexT l = glue [] (lexS (l.drop 0) 0 0 0) := by
  rw [glue_nil _ (lexS_none _ _ _ _)]
  unfold lexT
  rw [if_neg (by omega)]
  rfl
theorem glue_err (acc : List Tk) (p e : Nat) (h : e ≠ 0) : glue acc ([], p, e) = ([], p, e) := by unfold glue; simp [h]
theorem glue_ok (acc : List Tk) (p : Nat) : glue acc ([], p, 0) = (acc, p, 0) := by unfold glue; simp

end Go.Proofs.YtlcckhlkmnnjdabDoor

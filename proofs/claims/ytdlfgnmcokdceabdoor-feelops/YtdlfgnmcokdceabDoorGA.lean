/- Math B0 LMath Pow Base T10 Fit DIs Is Strs Parse RDigs PMath Keep: laid together. -/
import Derived.Test.YtdlfgnmcokdceabDoorProg
import Derived.WalkKit
import Derived.WalkSpells
import Derived.WalkLawsBesides
import Derived.Deep.QuietTactic
import Derived.BigQuiet
import Derived.Lib.Bytealg
/- The plain reckoning of decimals that the walks lean on: powers of ten, rounding half to even, noughts taken off, what Fit answers. -/
namespace Go.Proofs.YtdlfgnmcokdceabDoor

def p10 : Nat → Int
  | 0 => 1
  | n + 1 => p10 n * 10

theorem p10_succ (n : Nat) : p10 (n + 1) = p10 n * 10 := rfl

theorem p10_pos (n : Nat) : 1 ≤ p10 n := by
  induction n with
  | zero => decide
  | succ n ih => rw [p10_succ]; omega

theorem p10_mono {a b : Nat} (h : a ≤ b) : p10 a ≤ p10 b := by
  induction h with
  | refl => omega
  | step _ ih => rw [p10_succ]; have := p10_pos a; omega

theorem p10_bd {n : Nat} (h : n ≤ 8) : p10 n ≤ 100000000 := by
  have := p10_mono h
  have e : p10 8 = 100000000 := by decide
  omega

theorem p10_add (a b : Nat) : p10 (a + b) = p10 a * p10 b := by
  induction b with
  | zero => simp [p10]
  | succ b ih => rw [← Nat.add_assoc, p10_succ, p10_succ, ih, Int.mul_assoc]

/- n by d, rounded half to even. -/
def half (n d : Int) : Int :=
  if d < 2 * (n % d) ∨ (2 * (n % d) = d ∧ (n / d) % 2 ≠ 0) then n / d + 1 else n / d

/- noughts at the end taken off. -/
def trimM : Int → Nat → Int
  | m, 0 => m
  | m, s + 1 => if m % 10 = 0 then trimM (m / 10) s else m
def trimS : Int → Nat → Nat
  | _, 0 => 0
  | m, s + 1 => if m % 10 = 0 then trimS (m / 10) s else s + 1

/- may m be an M? -/
def okM (m : Int) : Bool := decide (-1000000000 ≤ m ∧ m ≤ 1000000000)

/- what is found from t - 1 down: M, S, the error. -/
def fitTM (m : Int) (s : Nat) : Nat → Int
  | 0 => 0
  | t + 1 => if okM (half m (p10 (s - t))) = true then trimM (half m (p10 (s - t))) t else fitTM m s t
def fitTS (m : Int) (s : Nat) : Nat → Nat
  | 0 => 0
  | t + 1 => if okM (half m (p10 (s - t))) = true then trimS (half m (p10 (s - t))) t else fitTS m s t
def fitTE (m : Int) (s : Nat) : Nat → Int
  | 0 => 3
  | t + 1 => if okM (half m (p10 (s - t))) = true then 0 else fitTE m s t

def argB (m s : Int) : Bool := decide (m < -1000000000000000000 ∨ 1000000000000000000 < m ∨ s < 0 ∨ 8 < s)

def fitM (m s : Int) : Int := if argB m s = true then 0 else fitTM m s.toNat (min s.toNat 4 + 1)
def fitS (m s : Int) : Int := if argB m s = true then 0 else (fitTS m s.toNat (min s.toNat 4 + 1) : Nat)
def fitE (m s : Int) : Int := if argB m s = true then 1 else fitTE m s.toNat (min s.toNat 4 + 1)

theorem half_bd (n d : Int) : n / d ≤ half n d ∧ half n d ≤ n / d + 1 := by
  unfold half; split <;> omega

theorem div_abs (n d B : Int) (hd : 1 ≤ d) (h0 : 0 ≤ B) (h1 : -B ≤ n) (h2 : n ≤ B) : -B ≤ n / d ∧ n / d ≤ B := by
  constructor
  · rw [Int.le_ediv_iff_mul_le (by omega)]
    have : B * 1 ≤ B * d := Int.mul_le_mul_of_nonneg_left hd h0
    rw [Int.neg_mul]; omega
  · apply Int.ediv_le_of_le_mul (by omega)
    have : B * 1 ≤ B * d := Int.mul_le_mul_of_nonneg_left hd h0
    omega

theorem half_one (n : Int) : half n 1 = n := by
  unfold half
  rw [if_neg (by omega)]; simp

theorem okM_iff (m : Int) : okM m = true ↔ (-1000000000 ≤ m ∧ m ≤ 1000000000) := by
  unfold okM; simp

/- may a decimal be? -/
def isB (m s : Int) : Bool := okM m && (decide (0 ≤ s) && (decide (s ≤ 4) && (decide (s = 0) || decide (m % 10 ≠ 0))))

theorem isB_bd {m s : Int} (h : isB m s = true) : -1000000000 ≤ m ∧ m ≤ 1000000000 ∧ 0 ≤ s ∧ s ≤ 4 := by
  unfold isB okM at h; simp at h; omega

/- M at the scale t. -/
def upM (m s t : Int) : Int := m * p10 (t - s).toNat

theorem mul_bd (m p B C : Int) (h1 : -B ≤ m) (h2 : m ≤ B) (hp : 0 ≤ p) (hC : p ≤ C) (hB : 0 ≤ B) : -(B * C) ≤ m * p ∧ m * p ≤ B * C := by
  have a := Int.mul_le_mul_of_nonneg_right h2 hp
  have b := Int.mul_le_mul_of_nonneg_right h1 hp
  have c := Int.mul_le_mul_of_nonneg_left hC hB
  rw [Int.neg_mul] at b
  omega

theorem upM_bd {m s t : Int} (h1 : -1000000000 ≤ m) (h2 : m ≤ 1000000000) (hs : t - s ≤ 8) : -100000000000000000 ≤ upM m s t ∧ upM m s t ≤ 100000000000000000 := by
  have p1 := p10_pos (t - s).toNat
  have p2 := p10_bd (n := (t - s).toNat) (by omega)
  have := mul_bd m (p10 (t - s).toNat) 1000000000 100000000 h1 h2 (by omega) p2 (by omega)
  unfold upM
  omega

/- a by b in ten-thousandths, rounded half to even. -/
def divQ (m s n t : Int) : Int := if n < 0 then half (-(m * p10 (4 + t - s).toNat)) (-n) else half (m * p10 (4 + t - s).toNat) n

/- which is less, at one scale. -/
def cmpI (x y : Int) : Int := if x < y then -1 else if y < x then 1 else 0

end Go.Proofs.YtdlfgnmcokdceabDoor

/- Small steps that all walks share. -/
namespace Go.Proofs.YtdlfgnmcokdceabDoor
open Go.RowKit

theorem ret_int {k : IntKind} {a b : Int} (h : a = b) : Ending.returned (.int k a) = .returned (.int k b) := by rw [h]
theorem hide {p : Prop} (h : p) : Hid p := h
theorem unhide {p : Prop} (h : Hid p) : p := h
theorem bcell {W w1 : World} (hb : Below W.heap.size W w1) : (∀ b o, b < W.heap.size → w1.cell? ⟨b, o, none⟩ = W.cell? ⟨b, o, none⟩) ∧ (∀ b o, b < W.heap.size → w1.frozen? ⟨b, o, none⟩ = W.frozen? ⟨b, o, none⟩) :=
  ⟨fun b o h => hb.cell (p := ⟨b, o, none⟩) h, fun b o h => hb.frozen (p := ⟨b, o, none⟩) h⟩
theorem bstep {W w1 w2 : World} (h : Below W.heap.size W w1) (k : Below w1.heap.size w1 w2) : Below W.heap.size W w2 := h.trans (k.mono h.size)
theorem below1 (w : World) (a : Obj) : Below w.heap.size w (w.alloc a) := (Below.refl _ _).alloc (Nat.le_refl _) _
theorem below2 (w : World) (a b : Obj) : Below w.heap.size w ((w.alloc a).alloc b) := (below1 w a).alloc (by simp) _
theorem below3 (w : World) (a b c : Obj) : Below w.heap.size w (((w.alloc a).alloc b).alloc c) := (below2 w a b).alloc (by simp; omega) _
theorem i64_in {n : Int} (h1 : -9223372036854775808 ≤ n) (h2 : n ≤ 9223372036854775807) : IntKind.i64.wrap n = n := by
  show (if (IntKind.i64.signed && decide (n % (2 ^ 64 : Int) ≥ (2 ^ 63 : Int))) = true then n % (2 ^ 64 : Int) - (2 ^ 64 : Int) else n % (2 ^ 64 : Int)) = n
  simp only [IntKind.signed, Bool.true_and, decide_eq_true_eq]
  split <;> omega
theorem ret_bool {a b : Bool} (h : a = b) : Ending.returned (.bool a) = .returned (.bool b) := by rw [h]

end Go.Proofs.YtdlfgnmcokdceabDoor

/- The mathematics of tokens: what stands at a place, how long it is, what is wrong with it; a text's tokens. -/
namespace Go.Proofs.YtdlfgnmcokdceabDoor

def smB (c : UInt8) : Bool := decide (97 ≤ c.toNat) && decide (c.toNat ≤ 122)
def dgB (c : UInt8) : Bool := decide (48 ≤ c.toNat) && decide (c.toNat ≤ 57)
def nmB (c : UInt8) : Bool := smB c || dgB c
def txB (c : UInt8) : Bool := decide (32 ≤ c.toNat) && decide (c.toNat ≤ 126) && !decide (c.toNat = 34)
def blB (c : UInt8) : Bool := decide (c.toNat = 32)

/- how many bytes of a kind stand ahead. -/
def run (p : UInt8 → Bool) : List UInt8 → Nat
  | [] => 0
  | c :: l => if p c = true then run p l + 1 else 0

theorem run_le (p : UInt8 → Bool) (l : List UInt8) : run p l ≤ l.length := by
  induction l with
  | nil => exact Nat.le_refl _
  | cons c l ih => unfold run; split <;> simp <;> omega
theorem drop_cons {l : List UInt8} {k : Nat} (h : k < l.length) : l.drop k = l[k] :: l.drop (k + 1) := List.drop_eq_getElem_cons h
theorem run_yes {p : UInt8 → Bool} {l : List UInt8} {k : Nat} (h : k < l.length) (hp : p l[k] = true) : k + run p (l.drop k) = (k + 1) + run p (l.drop (k + 1)) := by
  rw [drop_cons h, run, if_pos hp]; omega
theorem run_no {p : UInt8 → Bool} {l : List UInt8} {k : Nat} (h : k < l.length) (hp : p l[k] = false) : run p (l.drop k) = 0 := by
  rw [drop_cons h, run, if_neg (by simp [hp])]
theorem run_end {p : UInt8 → Bool} {l : List UInt8} {k : Nat} (h : l.length ≤ k) : run p (l.drop k) = 0 := by
  rw [List.drop_of_length_le h, run]
theorem run_in {p : UInt8 → Bool} (l : List UInt8) : ∀ j (h : j < l.length), j < run p l → p l[j] = true := by
  induction l with
  | nil => intro j h; exact absurd h (Nat.not_lt_zero _)
  | cons c l ih =>
    intro j h hj
    unfold run at hj
    split at hj
    · cases j with
      | zero => assumption
      | succ j => exact ih j (by simpa using h) (by omega)
    · exact absurd hj (Nat.not_lt_zero _)
theorem run_stop {p : UInt8 → Bool} (l : List UInt8) (h : run p l < l.length) : p l[run p l] = false := by
  induction l with
  | nil => exact absurd h (Nat.not_lt_zero _)
  | cons c l ih =>
    by_cases hp : p c = true
    · have e : run p (c :: l) = run p l + 1 := by rw [run, if_pos hp]
      simp only [e] at h ⊢
      simpa using ih (by simpa using h)
    · have e : run p (c :: l) = 0 := by rw [run, if_neg hp]
      simp only [e]
      simpa using hp

def sgs : List (List UInt8) := [[60, 61], [62, 61], [33, 61], [46, 46], [60], [62], [61], [43], [45], [42], [47], [40], [41], [91], [93], [44]]
def preB (g r : List UInt8) : Bool := decide (g.length ≤ r.length) && (r.take g.length == g)
def sgn : List (List UInt8) → List UInt8 → Nat
  | [], _ => 0
  | g :: gs, r => if preB g r = true then g.length else sgn gs r
def wds : List (List UInt8) := [[116, 114, 117, 101], [102, 97, 108, 115, 101], [110, 117, 108, 108], [105, 102], [116, 104, 101, 110], [101, 108, 115, 101], [97, 110, 100], [111, 114], [105, 110]]
def wordB (l : List UInt8) : Bool := wds.any (fun x => l == x)

/- a number's length. -/
def numN (r : List UInt8) : Nat :=
  if (r.drop (run dgB r)).head? = some 46 then
    if run dgB (r.drop (run dgB r + 1)) = 0 then run dgB r else run dgB r + 1 + run dgB (r.drop (run dgB r + 1))
  else run dgB r
/- does a text end? -/
def endB (r : List UInt8) : Bool := (r.drop (1 + run txB (r.drop 1))).head? == some 34

/- the kind of what stands ahead, and its length. -/
def tokK (r : List UInt8) : Nat :=
  match r with
  | [] => 0
  | c :: _ => if smB c = true then 1 else if dgB c = true then 2 else if c.toNat = 34 then (if endB r = true then 3 else 0) else if sgn sgs r = 0 then 0 else 4
def tokN (r : List UInt8) : Nat :=
  match r with
  | [] => 0
  | c :: _ => if smB c = true then run nmB r else if dgB c = true then numN r else if c.toNat = 34 then (if endB r = true then 1 + run txB (r.drop 1) + 1 else 0) else sgn sgs r
def saidL (k : Nat) (t : List UInt8) : List UInt8 := if k = 3 then (t.drop 1).take (t.length - 1 - 1) else t
def tokT (r : List UInt8) : List UInt8 := saidL (tokK r) (r.take (tokN r))
def flt (k : Nat) (t : List UInt8) : Nat := if k = 0 then 2 else if k = 1 ∧ 8 < t.length ∧ wordB t = false then 13 else if k = 3 ∧ 16 < t.length then 13 else 0
def fltN (k : Nat) (t : List UInt8) (n : Nat) : Nat := if flt k t = 0 ∧ 60 ≤ n then 13 else flt k t
def tokE (r : List UInt8) (n : Nat) : Nat := fltN (tokK r) (tokT r) n

abbrev Tk := Nat × List UInt8 × Nat
def consR (t : Tk) (x : List Tk × Nat × Nat) : List Tk × Nat × Nat := if x.2.2 = 0 then (t :: x.1, x.2) else ([], x.2)
def glue (acc : List Tk) (x : List Tk × Nat × Nat) : List Tk × Nat × Nat := if x.2.2 = 0 then (acc ++ x.1, x.2) else ([], x.2)
/- the tokens of the rest, behind k bytes more, at a place, behind n tokens. -/
def lexS : List UInt8 → Nat → Nat → Nat → List Tk × Nat × Nat
  | [], _, pos, _ => ([], pos, 0)
  | _ :: r, k + 1, pos, n => lexS r k (pos + 1) n
  | c :: r, 0, pos, n =>
    if c.toNat = 32 then lexS r 0 (pos + 1) n
    else if tokE (c :: r) n = 0 then consR (tokK (c :: r), tokT (c :: r), pos) (lexS r (tokN (c :: r) - 1) (pos + 1) (n + 1))
    else ([], pos, tokE (c :: r) n)
def lexT (l : List UInt8) : List Tk × Nat × Nat := if 200 < l.length then ([], 0, 13) else lexS l 0 0 0

theorem lexS_skip (r : List UInt8) : ∀ k pos n, k ≤ r.length → lexS r k pos n = lexS (r.drop k) 0 (pos + k) n := by
  induction r with
  | nil => intro k pos n h; have : k = 0 := by simpa using h
           subst this; rfl
  | cons c r ih =>
    intro k pos n h
    cases k with
    | zero => rfl
    | succ k =>
      rw [lexS, ih k (pos + 1) n (by simpa using h)]
      simp only [List.drop_succ_cons]
      rw [show pos + 1 + k = pos + (k + 1) by omega]
theorem preB_le {g r : List UInt8} (h : preB g r = true) : g.length ≤ r.length := by
  unfold preB at h; simp at h; exact h.1
theorem sgn_le (gs : List (List UInt8)) (r : List UInt8) : sgn gs r ≤ r.length := by
  induction gs with
  | nil => exact Nat.zero_le _
  | cons g gs ih =>
    unfold sgn
    split
    · exact preB_le (by assumption)
    · exact ih
theorem numN_le (r : List UInt8) : numN r ≤ r.length := by
  have h1 := run_le dgB r
  unfold numN
  split
  · split
    · exact h1
    · have h2 := run_le dgB (r.drop (run dgB r + 1))
      simp only [List.length_drop] at h2
      omega
  · exact h1
theorem run_pos {p : UInt8 → Bool} {c : UInt8} (r : List UInt8) (h : p c = true) : 1 ≤ run p (c :: r) := by rw [run, if_pos h]; omega
theorem numN_pos {c : UInt8} (r : List UInt8) (h : dgB c = true) : 1 ≤ numN (c :: r) := by
  have := run_pos (p := dgB) r h
  unfold numN
  split
  · split <;> omega
  · omega
theorem endB_lt {r : List UInt8} (h : endB r = true) : 1 + run txB (r.drop 1) < r.length := by
  unfold endB at h
  apply Classical.byContradiction
  intro hn
  rw [List.drop_of_length_le (by omega)] at h
  simp at h
theorem tokN_bd (r : List UInt8) : tokN r ≤ r.length ∧ (tokK r ≠ 0 → 1 ≤ tokN r) ∧ (tokK r = 3 → 2 ≤ tokN r) ∧ (tokK r = 0 → tokN r = 0) := by
  cases r with
  | nil => simp [tokN, tokK]
  | cons c r =>
    unfold tokN tokK
    by_cases h1 : smB c = true
    · simp only [h1, if_true]
      have := run_le nmB (c :: r)
      have := run_pos (p := nmB) r (show nmB c = true by simp [nmB, h1])
      exact ⟨by assumption, fun _ => by assumption, by simp, by simp⟩
    · simp only [h1, if_false, Bool.false_eq_true]
      by_cases h2 : dgB c = true
      · simp only [h2, if_true]
        exact ⟨numN_le _, fun _ => numN_pos r h2, by simp, by simp⟩
      · simp only [h2, if_false, Bool.false_eq_true]
        by_cases h3 : c.toNat = 34
        · simp only [h3, if_true]
          by_cases h4 : endB (c :: r) = true
          · have := endB_lt h4
            simp only [h4, if_true]
            exact ⟨by omega, fun _ => by omega, fun _ => by omega, by simp⟩
          · simp [h4]
        · simp only [h3, if_false]
          have := sgn_le sgs (c :: r)
          by_cases h5 : sgn sgs (c :: r) = 0
          · simp [h5]
          · simp only [h5, if_false]
            exact ⟨this, fun _ => by omega, by simp, by simp⟩
theorem tokN_le (r : List UInt8) : tokN r ≤ r.length := (tokN_bd r).1
theorem tokE_kind {r : List UInt8} {n : Nat} (h : tokE r n = 0) : tokK r ≠ 0 := by
  intro e
  unfold tokE fltN flt at h
  rw [e] at h
  simp at h

section
variable {l : List UInt8} {at0 n : Nat}
theorem lex_end (h : l.length ≤ at0) : lexS (l.drop at0) 0 at0 n = ([], at0, 0) := by
  rw [List.drop_of_length_le h, lexS]
theorem lex_blank (h : at0 < l.length) (hb : blB l[at0] = true) : lexS (l.drop at0) 0 at0 n = lexS (l.drop (at0 + 1)) 0 (at0 + 1) n := by
  rw [drop_cons h, lexS, if_pos (by simpa [blB] using hb)]
theorem lex_err (h : at0 < l.length) (hb : blB l[at0] = false) (he : tokE (l.drop at0) n ≠ 0) : lexS (l.drop at0) 0 at0 n = ([], at0, tokE (l.drop at0) n) := by
  rw [drop_cons h] at he ⊢
  rw [lexS, if_neg (by simpa [blB] using hb), if_neg he]
theorem lex_tok (h : at0 < l.length) (hb : blB l[at0] = false) (he : tokE (l.drop at0) n = 0) :
    lexS (l.drop at0) 0 at0 n = consR (tokK (l.drop at0), tokT (l.drop at0), at0) (lexS (l.drop (at0 + tokN (l.drop at0))) 0 (at0 + tokN (l.drop at0)) (n + 1)) := by
  have hk := (tokN_bd (l.drop at0)).2.1 (tokE_kind he)
  have hl := tokN_le (l.drop at0)
  rw [drop_cons h] at he hk hl ⊢
  rw [lexS, if_neg (by simpa [blB] using hb), if_pos he, lexS_skip _ _ _ _ (by simp only [List.length_cons] at hl; omega), List.drop_drop]
  rw [show at0 + 1 + (tokN (l[at0] :: l.drop (at0 + 1)) - 1) = at0 + tokN (l[at0] :: l.drop (at0 + 1)) by omega]
theorem lex_past (n : Nat) : ∀ m, l.length - at0 = m → lexS (l.drop at0) 0 at0 n = lexS (l.drop (at0 + run blB (l.drop at0))) 0 (at0 + run blB (l.drop at0)) n := by
  intro m
  induction m generalizing at0 with
  | zero => intro h; rw [run_end (p := blB) (by omega : l.length ≤ at0)]; rfl
  | succ m ih =>
    intro h
    have hlt : at0 < l.length := by omega
    cases hb : blB l[at0] with
    | false => rw [run_no (p := blB) hlt hb]; rfl
    | true => rw [lex_blank hlt hb, run_yes hlt hb]; exact ih (by omega)
end
theorem glue_cons (acc : List Tk) (t : Tk) (x : List Tk × Nat × Nat) : glue acc (consR t x) = glue (acc ++ [t]) x := by
  unfold glue consR
  by_cases h : x.2.2 = 0
  · simp [h]
  · simp [h]
theorem glue_nil (x : List Tk × Nat × Nat) (h : x.2.2 ≠ 0 → x.1 = []) : glue [] x = x := by
  unfold glue
  by_cases hx : x.2.2 = 0
  · simp [hx]
  · simp only [hx, if_false]
    rw [← h hx]
theorem lexS_none (r : List UInt8) : ∀ k pos n, (lexS r k pos n).2.2 ≠ 0 → (lexS r k pos n).1 = [] := by
  induction r with
  | nil => intro k pos n h; rfl
  | cons c r ih =>
    intro k pos n
    cases k with
    | succ k => rw [lexS]; exact ih k _ _
    | zero =>
      rw [lexS]
      split
      · exact ih 0 _ _
      · split
        · unfold consR
          split
          · intro h; simp_all
          · intro _; rfl
        · intro _; rfl
theorem lexT_glue {l : List UInt8} (h : l.length ≤ 200) : lexT l = glue [] (lexS (l.drop 0) 0 0 0) := by
  rw [glue_nil _ (lexS_none _ _ _ _)]
  unfold lexT
  rw [if_neg (by omega)]
  rfl
theorem glue_err (acc : List Tk) (p e : Nat) (h : e ≠ 0) : glue acc ([], p, e) = ([], p, e) := by unfold glue; simp [h]
theorem glue_ok (acc : List Tk) (p : Nat) : glue acc ([], p, 0) = (acc, p, 0) := by unfold glue; simp

end Go.Proofs.YtdlfgnmcokdceabDoor

/- The contracts of dec's small functions: power, holds. -/
namespace Go.Proofs.YtdlfgnmcokdceabDoor
open Go.RowKit

set_option maxHeartbeats 400000 in
theorem power_any (n : Int) (w : World) (h0 : 0 ≤ n) (h8 : n ≤ 8) :
    Calls Tryd.prog 79 #[.int .i64 n] w fun e w' => e = .returned (.int .i64 (p10 n.toNat)) ∧ w' = w := by
  obtain ⟨m, rfl⟩ := Int.eq_ofNat_of_zero_le h0
  rw [Int.toNat_natCast]
  go_enter Tryd.func79, Tryd.ntmps79
  go_wp2
  go_loop [3, 5] (fun p i => ∃ k : Nat, k ≤ m ∧ i = .int .i64 k ∧ p = .int .i64 (p10 k)) (fun _ i => m - (intOf i).toNat)
  case atStart => exact ⟨0, Nat.zero_le _, rfl, rfl⟩
  case round =>
    obtain ⟨k, hk, rfl, rfl⟩ := hrel
    have b1 := p10_pos k
    have b2 := p10_bd (n := k) (by omega)
    by_cases hlt : k < m
    · go_wp2
      go_round
      case rel => exact ⟨k + 1, by omega, by go_num, by rw [p10_succ]⟩
      case measure => simp [intOf]; omega
    · have e : k = m := by omega
      subst e
      go_wp2
      go_ret
      exact ⟨rfl, rfl⟩

set_option maxHeartbeats 400000 in
theorem holds_any (m : Int) (w : World) :
    Calls Tryd.prog 86 #[.int .i64 m] w fun e w' => e = .returned (.bool (okM m)) ∧ w' = w := by
  by_cases h1 : -1000000000 ≤ m
  · by_cases h2 : m ≤ 1000000000
    · go_enter Tryd.func86, Tryd.ntmps86
      go_wp2
      go_ret
      exact ⟨ret_bool (by simp [okM, h1, h2]), rfl⟩
    · go_enter Tryd.func86, Tryd.ntmps86
      go_wp2
      go_ret
      exact ⟨ret_bool (by simp [okM, h1, h2]), rfl⟩
  · go_enter Tryd.func86, Tryd.ntmps86
    go_wp2
    go_ret
    exact ⟨ret_bool (by simp [okM]; omega), rfl⟩

end Go.Proofs.YtdlfgnmcokdceabDoor

/- The contracts of dec's small functions: floor, halfEven (power and holds: Pow). -/
namespace Go.Proofs.YtdlfgnmcokdceabDoor
open Go.RowKit

theorem tdiv_floor (n d : Int) (hd : 1 ≤ d) : (n.tmod d < 0 → n.tdiv d - 1 = n / d) ∧ (¬ n.tmod d < 0 → n.tdiv d = n / d) := by
  have hm := Int.tmod_lt_of_pos n (b := d) (by omega)
  have hm2 := Int.lt_tmod_of_pos n (b := d) (by omega)
  have he := Int.mul_tdiv_add_tmod n d
  have h1 := Int.emod_nonneg n (b := d) (by omega)
  have h2 := Int.emod_lt_of_pos n (b := d) (by omega)
  have h3 := Int.mul_ediv_add_emod n d
  constructor
  · intro h
    apply Eq.symm
    rw [Int.ediv_eq_iff_of_pos (by omega)]
    have : (n.tdiv d - 1) * d = d * n.tdiv d - d := by rw [Int.sub_mul, Int.mul_comm]; omega
    have h' : (n.tdiv d - 1 + 1) * d = d * n.tdiv d := by rw [Int.sub_add_cancel, Int.mul_comm]
    constructor <;> omega
  · intro h
    apply Eq.symm
    rw [Int.ediv_eq_iff_of_pos (by omega)]
    have : (n.tdiv d) * d = d * n.tdiv d := Int.mul_comm _ _
    have h' : (n.tdiv d + 1) * d = d * n.tdiv d + d := by rw [Int.add_mul, Int.mul_comm]; omega
    constructor <;> omega

theorem tdiv_bd (n d B : Int) (hd : 1 ≤ d) (h0 : 0 ≤ B) (h1 : -B ≤ n) (h2 : n ≤ B) : -B ≤ n.tdiv d ∧ n.tdiv d ≤ B + 1 := by
  have ⟨a, b⟩ := tdiv_floor n d hd
  have := div_abs n d B hd h0 h1 h2
  by_cases h : n.tmod d < 0
  · have := a h; omega
  · have := b h; omega

set_option maxHeartbeats 400000 in
theorem floor_any (n d : Int) (w : World) (hd : 1 ≤ d) (hd2 : d ≤ 2000000000000000000) (h1 : -2000000000000000000 ≤ n) (h2 : n ≤ 2000000000000000000) :
    Calls Tryd.prog 89 #[.int .i64 n, .int .i64 d] w fun e w' => e = .returned (.int .i64 (n / d)) ∧ w' = w := by
  have ⟨fa, fb⟩ := tdiv_floor n d hd
  have tb := tdiv_bd n d 2000000000000000000 hd (by omega) h1 h2
  by_cases h : n.tmod d < 0
  · have F := hide (fa h)
    clear fa fb
    go_enter Tryd.func89, Tryd.ntmps89
    go_wp2
    go_ret
    exact ⟨ret_int (by rw [← unhide F]), rfl⟩
  · have F := hide (fb h)
    clear fa fb
    go_enter Tryd.func89, Tryd.ntmps89
    go_wp2
    go_ret
    exact ⟨ret_int (by rw [← unhide F]), rfl⟩

theorem tmod2 (q : Int) : (q.tmod 2 != 0) = decide (q % 2 ≠ 0) := by
  have : (q.tmod 2 = 0) ↔ (q % 2 = 0) := by
    rw [← Int.dvd_iff_tmod_eq_zero, ← Int.dvd_iff_emod_eq_zero]
  by_cases h0 : q % 2 = 0
  · simp [h0, this.2 h0]
  · have h1 := mt this.1 h0
    simp [h0, h1]

set_option maxHeartbeats 400000 in
theorem half_any (n d : Int) (w : World) (hd : 1 ≤ d) (hd2 : d ≤ 2000000000000000000) (h1 : -2000000000000000000 ≤ n) (h2 : n ≤ 2000000000000000000) :
    Calls Tryd.prog 85 #[.int .i64 n, .int .i64 d] w fun e w' => e = .returned (.int .i64 (half n d)) ∧ w' = w := by
  have q1 := div_abs n d 2000000000000000000 hd (by omega) h1 h2
  have e1 : n - n / d * d = n % d := by have := Int.mul_ediv_add_emod n d; rw [Int.mul_comm] at this; omega
  have r1 := Int.emod_nonneg n (b := d) (by omega)
  have r2 := Int.emod_lt_of_pos n (b := d) (by omega)
  have q2 : -4000000000000000000 ≤ n / d * d ∧ n / d * d ≤ 4000000000000000000 := by omega
  have t2 := tmod2 (n / d)
  unfold half
  generalize hq : n / d = q at *
  generalize hr : n % d = r at *
  have HQ := hide hq; have HR := hide hr
  clear hq hr
  by_cases c1 : d - r < r
  · have fin := hide (if_pos (Or.inl (show d < 2 * r by omega)) : (if d < 2 * r ∨ (2 * r = d ∧ q % 2 ≠ 0) then q + 1 else q) = q + 1)
    rw [unhide fin]
    clear t2
    go_enter Tryd.func85, Tryd.ntmps85
    go_wp2_with fail
    refine (floor_any _ _ _ hd hd2 h1 h2).mono ?_
    rintro e w' ⟨rfl, rfl⟩
    rw [unhide HQ]
    go_wp2
    go_ret
    exact ⟨rfl, rfl⟩
  · by_cases c2 : r = d - r
    · by_cases c3 : q % 2 ≠ 0
      · have fin := hide (if_pos (Or.inr ⟨show 2 * r = d by omega, c3⟩) : (if d < 2 * r ∨ (2 * r = d ∧ q % 2 ≠ 0) then q + 1 else q) = q + 1)
        rw [unhide fin]
        have t3 : (q.tmod 2 != 0) = true := by rw [t2]; simp [c3]
        have c4 : (r == d - r) = true := by simp [← c2]
        clear t2 c2 c3
        go_enter Tryd.func85, Tryd.ntmps85
        go_wp2_with fail
        refine (floor_any _ _ _ hd hd2 h1 h2).mono ?_
        rintro e w' ⟨rfl, rfl⟩
        rw [unhide HQ]
        go_wp2
        go_ret
        exact ⟨rfl, rfl⟩
      · have fin := hide (if_neg (by omega) : (if d < 2 * r ∨ (2 * r = d ∧ q % 2 ≠ 0) then q + 1 else q) = q)
        rw [unhide fin]
        have t3 : (q.tmod 2 != 0) = false := by rw [t2]; simpa using c3
        have c4 : (r == d - r) = true := by simp [← c2]
        clear t2 c2 c3
        go_enter Tryd.func85, Tryd.ntmps85
        go_wp2_with fail
        refine (floor_any _ _ _ hd hd2 h1 h2).mono ?_
        rintro e w' ⟨rfl, rfl⟩
        rw [unhide HQ]
        go_wp2
        go_ret
        exact ⟨rfl, rfl⟩
    · have fin := hide (if_neg (by omega) : (if d < 2 * r ∨ (2 * r = d ∧ q % 2 ≠ 0) then q + 1 else q) = q)
      rw [unhide fin]
      have c4 : (r == d - r) = false := by simpa using c2
      clear t2
      go_enter Tryd.func85, Tryd.ntmps85
      go_wp2_with fail
      refine (floor_any _ _ _ hd hd2 h1 h2).mono ?_
      rintro e w' ⟨rfl, rfl⟩
      rw [unhide HQ]
      go_wp2
      go_ret
      exact ⟨rfl, rfl⟩

end Go.Proofs.YtdlfgnmcokdceabDoor

/- A rest by ten. -/
namespace Go.Proofs.YtdlfgnmcokdceabDoor
open Go.RowKit

theorem tmod10 (m : Int) : (m.tmod 10 == 0) = decide (m % 10 = 0) := by
  have : (m.tmod 10 = 0) ↔ (m % 10 = 0) := by
    rw [← Int.dvd_iff_tmod_eq_zero, ← Int.dvd_iff_emod_eq_zero]
  by_cases h0 : m % 10 = 0
  · simp [h0, this.2 h0]
  · have h1 := mt this.1 h0
    simp [h0, h1]

end Go.Proofs.YtdlfgnmcokdceabDoor

/- The contracts of dec's trim and Fit. -/
namespace Go.Proofs.YtdlfgnmcokdceabDoor
open Go.RowKit

theorem tdiv10 (m : Int) (h : m % 10 = 0) : m.tdiv 10 = m / 10 := by
  have ⟨_, b⟩ := tdiv_floor m 10 (by omega)
  apply b
  have : m.tmod 10 = 0 := by rw [← Int.dvd_iff_tmod_eq_zero, Int.dvd_iff_emod_eq_zero]; exact h
  omega

set_option maxHeartbeats 400000 in
theorem trim_any (m s : Int) (w : World) (h0 : 0 ≤ s) (h4 : s ≤ 8) (b1 : -1000000000 ≤ m) (b2 : m ≤ 1000000000) :
    Calls Tryd.prog 87 #[.int .i64 m, .int .i64 s] w fun e w' => e = .returned (.agg #[.int .i64 (trimM m s.toNat), .int .i64 (trimS m s.toNat : Nat)]) ∧ Below w.heap.size w w' := by
  obtain ⟨n, rfl⟩ := Int.eq_ofNat_of_zero_le h0
  rw [Int.toNat_natCast]
  go_enter Tryd.func87, Tryd.ntmps87
  go_wp2
  go_loop [0, 1] (fun x y => ∃ (a : Int) (k : Nat), x = .int .i64 a ∧ y = .int .i64 k ∧ k ≤ 8 ∧ -1000000000 ≤ a ∧ a ≤ 1000000000 ∧ Hid (trimM a k = trimM m n ∧ trimS a k = trimS m n)) (fun _ y => (intOf y).toNat)
  case atStart => exact ⟨m, n, rfl, rfl, by omega, b1, b2, ⟨rfl, rfl⟩⟩
  case round =>
    obtain ⟨a, k, rfl, rfl, hk, a1, a2, hh⟩ := hrel
    have tm := tmod10 a
    match k, hk, hh with
    | 0, _, hh =>
      clear tm
      go_wp2
      refine bodyPost_ret (v := .agg #[.int .i64 a, .int .i64 0]) (by simp [results, Tryd.results87, go_sem]) rfl ⟨?_, ?_⟩
      · have := unhide hh
        rw [← this.1, ← this.2]; rfl
      · exact (Below.refl _ _).alloc (Nat.le_refl _) _
    | k + 1, hk, hh =>
      by_cases h10 : a % 10 = 0
      · have tm' : (a.tmod 10 == 0) = true := by rw [tm]; simp [h10]
        have td := tdiv10 a h10
        have H10 := hide h10
        clear tm h10
        go_wp2
        go_round
        case rel =>
          have e := unhide hh
          have h := unhide H10
          exact ⟨a / 10, k, rfl, by go_num, by omega, by omega, by omega, by rw [← e.1, ← e.2]; simp [Hid, trimM, trimS, h]⟩
        case measure => simp [intOf]
      · have tm' : (a.tmod 10 == 0) = false := by rw [tm]; simp [h10]
        have H10 := hide h10
        clear tm h10
        go_wp2
        refine bodyPost_ret (v := .agg #[.int .i64 a, .int .i64 ((k + 1 : Nat) : Int)]) (by simp [results, Tryd.results87, go_sem]) rfl ⟨?_, ?_⟩
        · have e := unhide hh
          have h := unhide H10
          rw [← e.1, ← e.2]; simp [trimM, trimS, h]
        · exact (Below.refl _ _).alloc (Nat.le_refl _) _

set_option maxHeartbeats 400000 in
theorem fit_arg (m s : Int) (w : World) (h : argB m s = true) :
    Calls Tryd.prog 80 #[.int .i64 m, .int .i64 s] w fun e w' => e = .returned (.tuple #[.agg #[.int .i64 0, .int .i64 0], .int .i64 1]) ∧ Below w.heap.size w w' := by
  unfold argB at h
  have h := of_decide_eq_true h
  by_cases c1 : m < -1000000000000000000
  · clear h
    go_enter Tryd.func80, Tryd.ntmps80
    go_wp2
    exact bodyPost_ret (v := .tuple #[.agg #[.int .i64 0, .int .i64 0], .int .i64 1]) (by simp [results, Tryd.results80, go_sem]) rfl ⟨rfl, (Below.refl _ _).alloc (Nat.le_refl _) _⟩
  · by_cases c2 : 1000000000000000000 < m
    · clear h
      go_enter Tryd.func80, Tryd.ntmps80
      go_wp2
      exact bodyPost_ret (v := .tuple #[.agg #[.int .i64 0, .int .i64 0], .int .i64 1]) (by simp [results, Tryd.results80, go_sem]) rfl ⟨rfl, (Below.refl _ _).alloc (Nat.le_refl _) _⟩
    · by_cases c3 : s < 0
      · clear h
        go_enter Tryd.func80, Tryd.ntmps80
        go_wp2
        exact bodyPost_ret (v := .tuple #[.agg #[.int .i64 0, .int .i64 0], .int .i64 1]) (by simp [results, Tryd.results80, go_sem]) rfl ⟨rfl, (Below.refl _ _).alloc (Nat.le_refl _) _⟩
      · have c4 : 8 < s := by omega
        clear h
        go_enter Tryd.func80, Tryd.ntmps80
        go_wp2
        exact bodyPost_ret (v := .tuple #[.agg #[.int .i64 0, .int .i64 0], .int .i64 1]) (by simp [results, Tryd.results80, go_sem]) rfl ⟨rfl, (Below.refl _ _).alloc (Nat.le_refl _) _⟩

set_option maxHeartbeats 400000 in
theorem fit_in (m s : Int) (w : World) (m1 : -1000000000000000000 ≤ m) (m2 : m ≤ 1000000000000000000) (s1 : 0 ≤ s) (s2 : s ≤ 8) :
    Calls Tryd.prog 80 #[.int .i64 m, .int .i64 s] w fun e w' => e = .returned (.tuple #[.agg #[.int .i64 (fitTM m s.toNat (min s.toNat 4 + 1)), .int .i64 (fitTS m s.toNat (min s.toNat 4 + 1) : Nat)], .int .i64 (fitTE m s.toNat (min s.toNat 4 + 1))]) ∧ Below w.heap.size w w' := by
  obtain ⟨n, rfl⟩ := Int.eq_ofNat_of_zero_le s1
  rw [Int.toNat_natCast]
  have d1 : decide (m < -1000000000000000000) = false := decide_eq_false (by omega)
  have d2 : decide (1000000000000000000 < m) = false := decide_eq_false (by omega)
  have d3 : decide ((n : Int) < 0) = false := decide_eq_false (by omega)
  have d4 : decide (8 < (n : Int)) = false := decide_eq_false (by omega)
  generalize hk0 : min n 4 + 1 = k0
  have hk1 : k0 ≤ 5 := by omega
  have hk2 : k0 ≤ n + 1 := by omega
  have HK := hide hk0
  clear hk0
  by_cases h4 : n ≤ 4
  all_goals
    go_enter Tryd.func80, Tryd.ntmps80
    go_wp2_with fail
    go_loop [6] (fun x => ∃ k : Nat, x = .int .i64 ((k : Int) - 1) ∧ k ≤ k0 ∧ Hid (fitTM m n k = fitTM m n k0 ∧ fitTS m n k = fitTS m n k0 ∧ fitTE m n k = fitTE m n k0)) (fun x => (intOf x + 1).toNat)
    case atStart => exact ⟨k0, by have := unhide HK; congr 1; omega, Nat.le_refl _, ⟨rfl, rfl, rfl⟩⟩
    case round =>
      obtain ⟨k, rfl, hk, hh⟩ := hrel
      match k, hk, hh with
      | 0, _, hh =>
        go_wp2
        have e := unhide hh
        rw [← e.1, ← e.2.1, ← e.2.2]
        exact bodyPost_ret (v := .tuple #[.agg #[.int .i64 0, .int .i64 0], .int .i64 3]) (by simp [results, Tryd.results80, go_sem]) rfl ⟨rfl, (Below.refl _ _).alloc (Nat.le_refl _) _⟩
      | k + 1, hk, hh =>
        have e0 : (((k + 1 : Nat) : Int) - 1) = (k : Int) := by omega
        rw [e0]
        have pb := p10_pos (n - k)
        have pb2 := p10_bd (n := n - k) (by omega)
        go_wp2_with fail
        refine (power_any _ _ (by omega) (by omega)).mono ?_
        rintro e w' ⟨rfl, rfl⟩
        rw [show ((n : Int) - k).toNat = n - k by omega]
        go_wp2_with fail
        refine (half_any _ _ _ pb (by omega) (by omega) (by omega)).mono ?_
        rintro e w' ⟨rfl, rfl⟩
        have u1 : fitTM m n (k + 1) = if okM (half m (p10 (n - k))) = true then trimM (half m (p10 (n - k))) k else fitTM m n k := rfl
        have u2 : fitTS m n (k + 1) = if okM (half m (p10 (n - k))) = true then trimS (half m (p10 (n - k))) k else fitTS m n k := rfl
        have u3 : fitTE m n (k + 1) = if okM (half m (p10 (n - k))) = true then 0 else fitTE m n k := rfl
        generalize half m (p10 (n - k)) = x at u1 u2 u3 ⊢
        have U1 := hide u1; have U2 := hide u2; have U3 := hide u3
        clear u1 u2 u3
        go_wp2_with fail
        refine (holds_any _ _).mono ?_
        rintro e w' ⟨rfl, rfl⟩
        by_cases hok : okM x = true
        · have hx := (okM_iff x).1 hok
          have HOK := hide hok
          rw [hok]
          clear hok
          go_wp2_with fail
          refine (trim_any _ _ _ (by omega) (by omega) hx.1 hx.2).mono ?_
          rintro e w1 ⟨rfl, hb⟩
          rw [Int.toNat_natCast]
          obtain ⟨hc, hf⟩ := bcell hb
          have hz : w.heap.size < w1.heap.size := by have := hb.size; simp at this; omega
          go_wp2
          have e1 := unhide hh
          rw [unhide U1, unhide U2, unhide U3, if_pos (unhide HOK), if_pos (unhide HOK), if_pos (unhide HOK)] at e1
          rw [← e1.1, ← e1.2.1, ← e1.2.2]
          refine bodyPost_ret (v := .tuple #[.agg #[.int .i64 (trimM x k), .int .i64 (trimS x k : Nat)], .int .i64 0]) (by simp [results, Tryd.results80, go_sem, hc]) rfl ⟨rfl, ?_⟩
          exact ((((Below.refl _ _).alloc (Nat.le_refl _) _).trans (hb.mono (by simp))).setCell (by simp) _).setCell (by simp) _
        · have hok' : okM x = false := by simpa using hok
          have HOK := hide hok
          rw [hok']
          clear hok hok'
          go_wp2
          go_round
          case rel =>
            have e1 := unhide hh
            rw [unhide U1, unhide U2, unhide U3, if_neg (unhide HOK), if_neg (unhide HOK), if_neg (unhide HOK)] at e1
            exact ⟨k, by go_num, by omega, e1⟩
          case measure => simp [intOf]

end Go.Proofs.YtdlfgnmcokdceabDoor

/- The contract of dec's Is. -/
namespace Go.Proofs.YtdlfgnmcokdceabDoor
open Go.RowKit

end Go.Proofs.YtdlfgnmcokdceabDoor

/- The contracts of dec's Fit, for all arguments (Is: DIs). -/
namespace Go.Proofs.YtdlfgnmcokdceabDoor
open Go.RowKit

theorem fit_any (m s : Int) (w : World) :
    Calls Tryd.prog 80 #[.int .i64 m, .int .i64 s] w fun e w' => e = .returned (.tuple #[.agg #[.int .i64 (fitM m s), .int .i64 (fitS m s)], .int .i64 (fitE m s)]) ∧ Below w.heap.size w w' := by
  by_cases h : argB m s = true
  · have e1 : fitM m s = 0 := if_pos h
    have e2 : fitS m s = 0 := if_pos h
    have e3 : fitE m s = 1 := if_pos h
    rw [e1, e2, e3]
    exact fit_arg m s w h
  · have e1 : fitM m s = _ := if_neg h
    have e2 : fitS m s = _ := if_neg h
    have e3 : fitE m s = _ := if_neg h
    rw [e1, e2, e3]
    unfold argB at h
    have h := mt (decide_eq_true (p := _)) h
    exact fit_in m s w (by omega) (by omega) (by omega) (by omega)

end Go.Proofs.YtdlfgnmcokdceabDoor

/- The contracts of the string functions that Parse goes through. -/
namespace Go.Proofs.YtdlfgnmcokdceabDoor
open Go.RowKit

theorem ext_eq (l : List UInt8) (a b : Nat) : (ByteArray.mk l.toArray).extract a b = ByteArray.mk ((l.drop a).take (b - a)).toArray := Lib.extract_eq ⟨l.toArray⟩ a b

set_option maxHeartbeats 400000 in
theorem cutp_nil (w : World) :
    Calls Tryd.prog 75 #[.string ⟨([] : List UInt8).toArray⟩, .string ⟨#[45]⟩] w fun e w' => e = .returned (.tuple #[.string ⟨([] : List UInt8).toArray⟩, .bool false]) ∧ w' = w := by
  go_enter Tryd.func75, Tryd.ntmps75
  go_wp2
  go_ret2
  exact ⟨rfl, rfl⟩

set_option maxHeartbeats 400000 in
theorem cutp_yes (l : List UInt8) (w : World) (hl : l.length ≤ 1000) :
    Calls Tryd.prog 75 #[.string ⟨(45 :: l).toArray⟩, .string ⟨#[45]⟩] w fun e w' => e = .returned (.tuple #[.string ⟨l.toArray⟩, .bool true]) ∧ w' = w := by
  have e1 : (ByteArray.mk (45 :: l).toArray).extract 0 1 = ByteArray.mk #[45] := by rw [ext_eq]; simp
  have e2 : (ByteArray.mk (45 :: l).toArray).extract 1 (l.length + 1) = ByteArray.mk l.toArray := by rw [ext_eq]; simp
  go_enter Tryd.func75, Tryd.ntmps75
  go_wp2
  go_ret2
  exact ⟨rfl, rfl⟩

set_option maxHeartbeats 400000 in
theorem cutp_no (c : UInt8) (l : List UInt8) (w : World) (hl : l.length ≤ 1000) (hc : c ≠ 45) :
    Calls Tryd.prog 75 #[.string ⟨(c :: l).toArray⟩, .string ⟨#[45]⟩] w fun e w' => e = .returned (.tuple #[.string ⟨(c :: l).toArray⟩, .bool false]) ∧ w' = w := by
  have e1 : (ByteArray.mk (c :: l).toArray).extract 0 1 = ByteArray.mk [c].toArray := by rw [ext_eq]; simp
  have e2 : (c == 45) = false := by simpa using hc
  clear hc
  go_enter Tryd.func75, Tryd.ntmps75
  go_wp2
  go_ret2
  exact ⟨rfl, rfl⟩

theorem idx_run (l : List UInt8) (c : Int) (w : World) : (callFunc 94 #[.string ⟨l.toArray⟩, .int .u8 c]).run Tryd.prog w = .ok (.value (.int .i64 (Lib.indexByte l c.toNat.toUInt8))) w := by
  rw [run_callFunc_extern (f := 94) (fn := Tryd.f94) (by kernel_rfl) (by kernel_rfl) (by kernel_rfl) (by kernel_rfl) (e := Extern.BytealgIndexByte.indexByte) (by kernel_rfl), Lib.run_indexByteString]
  rfl

set_option maxRecDepth 10000 in
set_option maxHeartbeats 400000 in
theorem index_any (l : List UInt8) (w : World) (hl : l.length ≤ 1000) :
    Calls Tryd.prog 88 #[.string ⟨l.toArray⟩, .string ⟨#[46]⟩] w fun e w' => e = .returned (.int .i64 (Lib.indexByte l 46)) ∧ w' = w := by
  by_cases h : l = [46]
  · subst h
    clear hl
    go_enter Tryd.func88, Tryd.ntmps88
    go_wp2
    go_ret
    exact ⟨ret_int (by decide), rfl⟩
  · have e1 : ([46] == l) = false := by simpa using Ne.symm h
    clear h
    have hr := idx_run l 46
    have hb : ((ByteArray.mk #[46])[0]'(by decide)).toNat = 46 := rfl
    go_enter Tryd.func88, Tryd.ntmps88
    go_wp2
    go_ret
    exact ⟨rfl, rfl⟩

theorem idx_facts (l : List UInt8) (c : UInt8) : Lib.indexByte l c = -1 ∨ ∃ k : Nat, Lib.indexByte l c = k ∧ k < l.length := by
  induction l with
  | nil => exact Or.inl rfl
  | cons b l ih =>
    unfold Lib.indexByte
    split
    · exact Or.inr ⟨0, rfl, by simp⟩
    · rcases ih with h | ⟨k, h, hk⟩
      · rw [h]; exact Or.inl rfl
      · rw [h]
        refine Or.inr ⟨k + 1, ?_, by simpa using hk⟩
        rw [if_neg (by intro h; have := eq_of_beq h; omega)]; rfl

set_option maxHeartbeats 400000 in
theorem cut_no (l : List UInt8) (w : World) (hl : l.length ≤ 1000) (hi : Lib.indexByte l 46 = -1) :
    Calls Tryd.prog 76 #[.string ⟨l.toArray⟩, .string ⟨#[46]⟩] w fun e w' => e = .returned (.tuple #[.string ⟨l.toArray⟩, .string ⟨#[]⟩, .bool false]) ∧ Below w.heap.size w w' := by
  have h42 : Calls Tryd.prog 84 #[.string ⟨l.toArray⟩, .string ⟨#[46]⟩] w fun e w' => e = .returned (.tuple #[.string ⟨l.toArray⟩, .string ⟨#[]⟩, .bool false]) ∧ w' = w := by
    have HI := hide hi
    clear hi
    go_enter Tryd.func84, Tryd.ntmps84
    go_wp2_with fail
    refine (index_any _ _ hl).mono ?_
    rintro e w' ⟨rfl, rfl⟩
    rw [unhide HI]
    go_wp2
    go_ret3
    exact ⟨rfl, rfl⟩
  clear hi
  go_enter Tryd.func76, Tryd.ntmps76
  go_wp2_with fail
  refine h42.mono ?_
  clear h42
  rintro e w' ⟨rfl, rfl⟩
  go_wp2
  go_ret3
  exact ⟨rfl, Below.refl _ _⟩

set_option maxHeartbeats 400000 in
theorem cut_yes (l : List UInt8) (k : Nat) (w : World) (hl : l.length ≤ 1000) (hi : Lib.indexByte l 46 = k) (hk : k < l.length) :
    Calls Tryd.prog 76 #[.string ⟨l.toArray⟩, .string ⟨#[46]⟩] w fun e w' => e = .returned (.tuple #[.string ⟨(l.take k).toArray⟩, .string ⟨(l.drop (k + 1)).toArray⟩, .bool true]) ∧ Below w.heap.size w w' := by
  have h42 : Calls Tryd.prog 84 #[.string ⟨l.toArray⟩, .string ⟨#[46]⟩] w fun e w' => e = .returned (.tuple #[.string ⟨(l.take k).toArray⟩, .string ⟨(l.drop (k + 1)).toArray⟩, .bool true]) ∧ Below w.heap.size w w' := by
    have HI := hide hi
    clear hi
    have e1 : (ByteArray.mk l.toArray).extract 0 k = ByteArray.mk (l.take k).toArray := by rw [ext_eq]; simp
    have e2 : (ByteArray.mk l.toArray).extract (k + 1) l.length = ByteArray.mk (l.drop (k + 1)).toArray := by rw [ext_eq, List.take_of_length_le (by simp)]
    go_enter Tryd.func84, Tryd.ntmps84
    go_wp2_with fail
    refine (index_any _ _ hl).mono ?_
    rintro e w' ⟨rfl, rfl⟩
    rw [unhide HI]
    go_wp2_with fail
    go_quiet (fail)
    go_wp2
    go_ret3
    exact ⟨rfl, below_drewN (Below.refl _ _) _⟩
  clear hi
  generalize l.take k = a at *
  generalize l.drop (k + 1) = b at *
  go_enter Tryd.func76, Tryd.ntmps76
  go_wp2_with fail
  refine h42.mono ?_
  clear h42
  rintro e w' ⟨rfl, hb⟩
  go_wp2
  go_ret3
  exact ⟨rfl, hb⟩

def isDig (c : UInt8) : Bool := decide (48 ≤ c.toNat) && decide (c.toNat ≤ 57)

theorem take_all (l : List UInt8) (k : Nat) (h : k < l.length) : (l.take (k + 1)).all isDig = (isDig l[k] && (l.take k).all isDig) := by
  rw [List.take_succ_eq_append_getElem h, List.all_append, Bool.and_comm]
  simp

theorem all_false (l : List UInt8) (k : Nat) (h : k < l.length) (hd : isDig l[k] = false) : l.all isDig = false := by
  rw [List.all_eq_false]
  exact ⟨l[k], List.getElem_mem h, by simp [hd]⟩

set_option maxHeartbeats 400000 in
theorem digits_any (l : List UInt8) (w : World) (hl : l.length ≤ 1000) :
    Calls Tryd.prog 77 #[.string ⟨l.toArray⟩] w fun e w' => e = .returned (.bool (l.all isDig && !l.isEmpty)) ∧ w' = w := by
  go_enter Tryd.func77, Tryd.ntmps77
  go_wp2
  go_loop [6] (fun i => ∃ k : Nat, k ≤ l.length ∧ i = .int .i64 k ∧ (l.take k).all isDig = true) (fun i => l.length - (intOf i).toNat)
  case atStart => exact ⟨0, Nat.zero_le _, rfl, by simp⟩
  case round =>
    obtain ⟨k, hk, rfl, hd⟩ := hrel
    by_cases hlt : k < l.length
    · have hg : (ByteArray.mk l.toArray)[k]'hlt = l[k] := rfl
      have ht := take_all l k hlt
      have HT := hide ht
      have HD := hide hd
      clear ht hd
      by_cases h48 : (48 : Int) ≤ (l[k].toNat : Int)
      · by_cases h57 : (l[k].toNat : Int) ≤ 57
        · have hdig : isDig l[k] = true := by unfold isDig; simp; omega
          have HDIG := hide hdig
          clear hdig
          go_wp2
          go_round
          case rel => exact ⟨k + 1, by omega, by go_num, by rw [unhide HT, unhide HDIG, unhide HD]; rfl⟩
          case measure => simp [intOf]; omega
        · have hdig : isDig l[k] = false := by unfold isDig; simp; omega
          have HA := hide (all_false l k hlt hdig)
          clear hdig
          go_wp2
          go_ret
          exact ⟨ret_bool (by rw [unhide HA]; rfl), rfl⟩
      · have hdig : isDig l[k] = false := by unfold isDig; simp; omega
        have HA := hide (all_false l k hlt hdig)
        clear hdig
        go_wp2
        go_ret
        exact ⟨ret_bool (by rw [unhide HA]; rfl), rfl⟩
    · have HA := hide (show l.all isDig = true by rw [List.take_of_length_le (by omega)] at hd; exact hd)
      have e : k = l.length := by omega
      subst e
      clear hd
      go_wp2
      go_ret
      exact ⟨ret_bool (by rw [unhide HA]; rfl), rfl⟩

/- one or more digits. -/
def digs (l : List UInt8) : Bool := l.all isDig && !l.isEmpty

theorem digs_any (l : List UInt8) (w : World) (hl : l.length ≤ 1000) :
    Calls Tryd.prog 77 #[.string ⟨l.toArray⟩] w fun e w' => e = .returned (.bool (digs l)) ∧ w' = w := digits_any l w hl

/- what digits say. -/
def num (l : List UInt8) : Int := l.foldl (fun n c => n * 10 + ((c.toNat : Int) - 48)) 0

theorem num_snoc (l : List UInt8) (c : UInt8) : num (l ++ [c]) = num l * 10 + ((c.toNat : Int) - 48) := by
  unfold num; rw [List.foldl_append]; rfl

theorem num_take (l : List UInt8) (k : Nat) (h : k < l.length) : num (l.take (k + 1)) = num (l.take k) * 10 + ((l[k].toNat : Int) - 48) := by
  rw [List.take_succ_eq_append_getElem h, num_snoc]

theorem isDig_bd {c : UInt8} (h : isDig c = true) : 48 ≤ (c.toNat : Int) ∧ (c.toNat : Int) ≤ 57 := by
  unfold isDig at h; simp at h; omega

theorem dig_get (l : List UInt8) (h : l.all isDig = true) (k : Nat) (hk : k < l.length) : isDig l[k] = true :=
  List.all_eq_true.1 h _ (List.getElem_mem hk)

theorem num_bd (l : List UInt8) (h : l.all isDig = true) (k : Nat) (hk : k ≤ l.length) : 0 ≤ num (l.take k) ∧ num (l.take k) + 1 ≤ p10 k := by
  induction k with
  | zero => simp [num, p10]
  | succ k ih =>
    have ⟨a, b⟩ := ih (by omega)
    have d := isDig_bd (dig_get l h k (by omega))
    rw [num_take l k (by omega), p10_succ]
    omega

theorem p10_18 {k : Nat} (h : k ≤ 18) : p10 k ≤ 1000000000000000000 := by
  have := p10_mono h
  have e : p10 18 = 1000000000000000000 := by decide
  omega

theorem num_join (a b : List UInt8) (ha : a.all isDig = true) (hb : b.all isDig = true) (hl : a.length + b.length ≤ 18) :
    0 ≤ num a ∧ num a ≤ 1000000000000000000 ∧ 0 ≤ num b ∧ num b ≤ 1000000000000000000 ∧ 0 ≤ num a * p10 b.length ∧ num a * p10 b.length ≤ 1000000000000000000 ∧ num a * p10 b.length + num b ≤ 1000000000000000000 := by
  have a1 := num_bd a ha a.length (Nat.le_refl _)
  have b1 := num_bd b hb b.length (Nat.le_refl _)
  rw [List.take_length] at a1 b1
  have pa := p10_18 (k := a.length) (by omega)
  have pb := p10_18 (k := b.length) (by omega)
  have pc := p10_18 (k := a.length + b.length) hl
  rw [p10_add] at pc
  have p0 := p10_pos b.length
  have h1 := Int.mul_le_mul_of_nonneg_right a1.2 (show 0 ≤ p10 b.length by omega)
  have h2 := Int.mul_nonneg a1.1 (show 0 ≤ p10 b.length by omega)
  rw [Int.add_mul] at h1
  omega

set_option maxHeartbeats 400000 in
theorem number_any (l : List UInt8) (w : World) (hl : l.length ≤ 18) (hd : l.all isDig = true) :
    Calls Tryd.prog 78 #[.string ⟨l.toArray⟩] w fun e w' => e = .returned (.int .i64 (num l)) ∧ w' = w := by
  have HD := hide hd
  clear hd
  go_enter Tryd.func78, Tryd.ntmps78
  go_wp2
  go_loop [3, 7] (fun n i => ∃ k : Nat, k ≤ l.length ∧ i = .int .i64 k ∧ n = .int .i64 (num (l.take k))) (fun _ i => l.length - (intOf i).toNat)
  case atStart => exact ⟨0, Nat.zero_le _, rfl, rfl⟩
  case round =>
    obtain ⟨k, hk, rfl, rfl⟩ := hrel
    by_cases hlt : k < l.length
    · have hg : (ByteArray.mk l.toArray)[k]'hlt = l[k] := rfl
      have b1 := num_bd l (unhide HD) k hk
      have b2 := p10_18 (k := k) (by omega)
      have b3 : num (l.take k) * 10 + ((l[k].toNat : Int) - 48) + 1 ≤ 1000000000000000000 := by
        have := num_bd l (unhide HD) (k + 1) hlt
        have := p10_18 (k := k + 1) (by omega)
        rw [num_take l k hlt] at *
        omega
      have d := isDig_bd (dig_get l (unhide HD) k hlt)
      have NT := hide (num_take l k hlt)
      go_wp2
      go_round
      case rel => exact ⟨k + 1, by omega, by go_num, by rw [unhide NT]⟩
      case measure => simp [intOf]; omega
    · have e : k = l.length := by omega
      subst e
      have HT := hide (show num (l.take l.length) = num l by rw [List.take_length])
      go_wp2
      go_ret
      exact ⟨ret_int (by first | exact unhide HT | rfl), rfl⟩

end Go.Proofs.YtdlfgnmcokdceabDoor

/- The contract of dec's Parse, over whatever its text is cut into. -/
namespace Go.Proofs.YtdlfgnmcokdceabDoor
open Go.RowKit

def ParsePre (l r a b : List UInt8) (neg p : Bool) : Prop :=
  (∀ w, Calls Tryd.prog 75 #[.string ⟨l.toArray⟩, .string ⟨#[45]⟩] w fun e w' => e = .returned (.tuple #[.string ⟨r.toArray⟩, .bool neg]) ∧ w' = w) ∧
  (∀ w, Calls Tryd.prog 76 #[.string ⟨r.toArray⟩, .string ⟨#[46]⟩] w fun e w' => e = .returned (.tuple #[.string ⟨a.toArray⟩, .string ⟨b.toArray⟩, .bool p]) ∧ Below w.heap.size w w')

set_option maxHeartbeats 800000 in
theorem parse_bad1 (l r a b : List UInt8) (neg p : Bool) (w : World) (hp : ParsePre l r a b neg p) (la : a.length ≤ 1000) (_ : b.length ≤ 1000) (ha : digs a = false) :
    Calls Tryd.prog 71 #[.string ⟨l.toArray⟩] w fun e w' => e = .returned (.tuple #[.agg #[.int .i64 0, .int .i64 0], .int .i64 2]) ∧ Below w.heap.size w w' := by
  have HA := hide ha
  clear ha
  go_enter Tryd.func71, Tryd.ntmps71
  go_wp2_with fail
  refine (hp.1 _).mono ?_
  rintro e w' ⟨rfl, rfl⟩
  go_wp2_with fail
  refine (hp.2 _).mono ?_
  rintro e w1 ⟨rfl, b1⟩
  obtain ⟨c1, f1⟩ := bcell b1
  have z1 : w.heap.size < w1.heap.size := by have := b1.size; simp at this; omega
  go_wp2_with fail
  refine (digs_any a _ la).mono ?_
  rintro e w' ⟨rfl, rfl⟩
  rw [unhide HA]
  go_wp2
  refine bodyPost_ret (v := .tuple #[.agg #[.int .i64 0, .int .i64 0], .int .i64 2]) (by simp [results, Tryd.results71, go_sem, c1]) rfl ⟨rfl, ?_⟩
  exact ((bstep (below1 w _) b1).setCell (by simp) _).setCell (by simp) _

set_option maxHeartbeats 800000 in
theorem parse_bad2 (l r a b : List UInt8) (neg : Bool) (w : World) (hp : ParsePre l r a b neg true) (la : a.length ≤ 1000) (lb : b.length ≤ 1000) (ha : digs a = true) (hb : digs b = false) :
    Calls Tryd.prog 71 #[.string ⟨l.toArray⟩] w fun e w' => e = .returned (.tuple #[.agg #[.int .i64 0, .int .i64 0], .int .i64 2]) ∧ Below w.heap.size w w' := by
  have HA := hide ha
  have HB := hide hb
  clear ha hb
  go_enter Tryd.func71, Tryd.ntmps71
  go_wp2_with fail
  refine (hp.1 _).mono ?_
  rintro e w' ⟨rfl, rfl⟩
  go_wp2_with fail
  refine (hp.2 _).mono ?_
  rintro e w1 ⟨rfl, b1⟩
  obtain ⟨c1, f1⟩ := bcell b1
  have z1 : w.heap.size < w1.heap.size := by have := b1.size; simp at this; omega
  go_wp2_with fail
  refine (digs_any a _ la).mono ?_
  rintro e w' ⟨rfl, rfl⟩
  rw [unhide HA]
  go_wp2_with fail
  refine (digs_any b _ lb).mono ?_
  rintro e w' ⟨rfl, rfl⟩
  rw [unhide HB]
  go_wp2
  refine bodyPost_ret (v := .tuple #[.agg #[.int .i64 0, .int .i64 0], .int .i64 2]) (by simp [results, Tryd.results71, go_sem, c1]) rfl ⟨rfl, ?_⟩
  exact ((bstep (below1 w _) b1).setCell (by simp) _).setCell (by simp) _

set_option maxHeartbeats 800000 in
theorem parse_over (l r a b : List UInt8) (neg p : Bool) (w : World) (hp : ParsePre l r a b neg p) (la : a.length ≤ 1000) (lb : b.length ≤ 1000) (ha : digs a = true) (hb : p = true → digs b = true) (ho : 18 < a.length + b.length ∨ 8 < b.length) :
    Calls Tryd.prog 71 #[.string ⟨l.toArray⟩] w fun e w' => e = .returned (.tuple #[.agg #[.int .i64 0, .int .i64 0], .int .i64 3]) ∧ Below w.heap.size w w' := by
  have HA := hide ha
  have HB0 := hide hb
  clear ha hb
  by_cases h18 : 18 < (a.length : Int) + b.length
  · clear ho
    cases p
    · go_enter Tryd.func71, Tryd.ntmps71
      go_wp2_with fail
      refine (hp.1 _).mono ?_
      rintro e w' ⟨rfl, rfl⟩
      go_wp2_with fail
      refine (hp.2 _).mono ?_
      rintro e w1 ⟨rfl, b1⟩
      obtain ⟨c1, f1⟩ := bcell b1
      have z1 : w.heap.size < w1.heap.size := by have := b1.size; simp at this; omega
      go_wp2_with fail
      refine (digs_any a _ la).mono ?_
      rintro e w' ⟨rfl, rfl⟩
      rw [unhide HA]
      go_wp2
      refine bodyPost_ret (v := .tuple #[.agg #[.int .i64 0, .int .i64 0], .int .i64 3]) (by simp [results, Tryd.results71, go_sem, c1]) rfl ⟨rfl, ?_⟩
      exact ((bstep (below1 w _) b1).setCell (by simp) _).setCell (by simp) _
    · have HB := hide (unhide HB0 rfl)
      go_enter Tryd.func71, Tryd.ntmps71
      go_wp2_with fail
      refine (hp.1 _).mono ?_
      rintro e w' ⟨rfl, rfl⟩
      go_wp2_with fail
      refine (hp.2 _).mono ?_
      rintro e w1 ⟨rfl, b1⟩
      obtain ⟨c1, f1⟩ := bcell b1
      have z1 : w.heap.size < w1.heap.size := by have := b1.size; simp at this; omega
      go_wp2_with fail
      refine (digs_any a _ la).mono ?_
      rintro e w' ⟨rfl, rfl⟩
      rw [unhide HA]
      go_wp2_with fail
      refine (digs_any b _ lb).mono ?_
      rintro e w' ⟨rfl, rfl⟩
      rw [unhide HB]
      go_wp2
      refine bodyPost_ret (v := .tuple #[.agg #[.int .i64 0, .int .i64 0], .int .i64 3]) (by simp [results, Tryd.results71, go_sem, c1]) rfl ⟨rfl, ?_⟩
      exact ((bstep (below1 w _) b1).setCell (by simp) _).setCell (by simp) _
  · have h8 : 8 < (b.length : Int) := by omega
    clear ho
    cases p
    · go_enter Tryd.func71, Tryd.ntmps71
      go_wp2_with fail
      refine (hp.1 _).mono ?_
      rintro e w' ⟨rfl, rfl⟩
      go_wp2_with fail
      refine (hp.2 _).mono ?_
      rintro e w1 ⟨rfl, b1⟩
      obtain ⟨c1, f1⟩ := bcell b1
      have z1 : w.heap.size < w1.heap.size := by have := b1.size; simp at this; omega
      go_wp2_with fail
      refine (digs_any a _ la).mono ?_
      rintro e w' ⟨rfl, rfl⟩
      rw [unhide HA]
      go_wp2
      refine bodyPost_ret (v := .tuple #[.agg #[.int .i64 0, .int .i64 0], .int .i64 3]) (by simp [results, Tryd.results71, go_sem, c1]) rfl ⟨rfl, ?_⟩
      exact ((bstep (below1 w _) b1).setCell (by simp) _).setCell (by simp) _
    · have HB := hide (unhide HB0 rfl)
      go_enter Tryd.func71, Tryd.ntmps71
      go_wp2_with fail
      refine (hp.1 _).mono ?_
      rintro e w' ⟨rfl, rfl⟩
      go_wp2_with fail
      refine (hp.2 _).mono ?_
      rintro e w1 ⟨rfl, b1⟩
      obtain ⟨c1, f1⟩ := bcell b1
      have z1 : w.heap.size < w1.heap.size := by have := b1.size; simp at this; omega
      go_wp2_with fail
      refine (digs_any a _ la).mono ?_
      rintro e w' ⟨rfl, rfl⟩
      rw [unhide HA]
      go_wp2_with fail
      refine (digs_any b _ lb).mono ?_
      rintro e w' ⟨rfl, rfl⟩
      rw [unhide HB]
      go_wp2
      refine bodyPost_ret (v := .tuple #[.agg #[.int .i64 0, .int .i64 0], .int .i64 3]) (by simp [results, Tryd.results71, go_sem, c1]) rfl ⟨rfl, ?_⟩
      exact ((bstep (below1 w _) b1).setCell (by simp) _).setCell (by simp) _

/- what Parse hands to Fit. -/
def parseM (a b : List UInt8) (neg : Bool) : Int := if neg = true then -(num a * p10 b.length + num b) else num a * p10 b.length + num b

set_option maxHeartbeats 800000 in
theorem parse_ok (l r a b : List UInt8) (neg p : Bool) (w : World) (hp : ParsePre l r a b neg p) (ha : digs a = true) (hb : p = true → digs b = true) (hbd : b.all isDig = true) (h18 : a.length + b.length ≤ 18) (h8 : b.length ≤ 8) :
    Calls Tryd.prog 71 #[.string ⟨l.toArray⟩] w fun e w' => e = .returned (.tuple #[.agg #[.int .i64 (fitM (parseM a b neg) b.length), .int .i64 (fitS (parseM a b neg) b.length)], .int .i64 (fitE (parseM a b neg) b.length)]) ∧ Below w.heap.size w w' := by
  have had : a.all isDig = true := by unfold digs at ha; simp at ha; simpa using ha.1
  have ⟨j1, j2, j3, j4, j5, j6, j7⟩ := num_join a b had hbd h18
  have la : a.length ≤ 1000 := by omega
  have lb : b.length ≤ 1000 := by omega
  have HA := hide ha
  have HB0 := hide hb
  have HAD := hide had
  have HBD := hide hbd
  clear ha hb had hbd
  cases p
  · cases neg
    · show Calls Tryd.prog 71 #[.string ⟨l.toArray⟩] w fun e w' => e = .returned (.tuple #[.agg #[.int .i64 (fitM (num a * p10 b.length + num b) b.length), .int .i64 (fitS (num a * p10 b.length + num b) b.length)], .int .i64 (fitE (num a * p10 b.length + num b) b.length)]) ∧ Below w.heap.size w w'
      go_enter Tryd.func71, Tryd.ntmps71
      go_wp2_with fail
      refine (hp.1 _).mono ?_
      rintro e w' ⟨rfl, rfl⟩
      go_wp2_with fail
      refine (hp.2 _).mono ?_
      rintro e w1 ⟨rfl, b1⟩
      obtain ⟨c1, f1⟩ := bcell b1
      have z1 : w.heap.size < w1.heap.size := by have := b1.size; simp at this; omega
      go_wp2_with fail
      refine (digs_any a _ la).mono ?_
      rintro e w' ⟨rfl, rfl⟩
      rw [unhide HA]
      go_wp2_with fail
      refine (number_any a _ (by omega) (unhide HAD)).mono ?_
      rintro e w' ⟨rfl, rfl⟩
      go_wp2_with fail
      refine (power_any _ _ (by omega) (by omega)).mono ?_
      rintro e w' ⟨rfl, rfl⟩
      rw [Int.toNat_natCast]
      go_wp2_with fail
      refine (number_any b _ (by omega) (unhide HBD)).mono ?_
      rintro e w' ⟨rfl, rfl⟩
      go_wp2_with fail
      refine (fit_any _ _ _).mono ?_
      rintro e w4 ⟨rfl, k4⟩
      have b4 := bstep b1 k4
      clear c1 f1 b1 k4
      obtain ⟨c4, f4⟩ := bcell b4
      have z4 : w.heap.size < w4.heap.size := by have := b4.size; simp at this; omega
      go_wp2
      refine bodyPost_ret (v := .tuple #[.agg #[.int .i64 (fitM _ _), .int .i64 (fitS _ _)], .int .i64 (fitE _ _)]) (by simp [results, Tryd.results71, go_sem, c4]) rfl ⟨rfl, ?_⟩
      exact ((bstep (below1 w _) b4).setCell (by simp) _).setCell (by simp) _
    · show Calls Tryd.prog 71 #[.string ⟨l.toArray⟩] w fun e w' => e = .returned (.tuple #[.agg #[.int .i64 (fitM (-(num a * p10 b.length + num b)) b.length), .int .i64 (fitS (-(num a * p10 b.length + num b)) b.length)], .int .i64 (fitE (-(num a * p10 b.length + num b)) b.length)]) ∧ Below w.heap.size w w'
      go_enter Tryd.func71, Tryd.ntmps71
      go_wp2_with fail
      refine (hp.1 _).mono ?_
      rintro e w' ⟨rfl, rfl⟩
      go_wp2_with fail
      refine (hp.2 _).mono ?_
      rintro e w1 ⟨rfl, b1⟩
      obtain ⟨c1, f1⟩ := bcell b1
      have z1 : w.heap.size < w1.heap.size := by have := b1.size; simp at this; omega
      go_wp2_with fail
      refine (digs_any a _ la).mono ?_
      rintro e w' ⟨rfl, rfl⟩
      rw [unhide HA]
      go_wp2_with fail
      refine (number_any a _ (by omega) (unhide HAD)).mono ?_
      rintro e w' ⟨rfl, rfl⟩
      go_wp2_with fail
      refine (power_any _ _ (by omega) (by omega)).mono ?_
      rintro e w' ⟨rfl, rfl⟩
      rw [Int.toNat_natCast]
      go_wp2_with fail
      refine (number_any b _ (by omega) (unhide HBD)).mono ?_
      rintro e w' ⟨rfl, rfl⟩
      go_wp2_with fail
      refine (fit_any _ _ _).mono ?_
      rintro e w4 ⟨rfl, k4⟩
      have b4 := bstep b1 k4
      clear c1 f1 b1 k4
      obtain ⟨c4, f4⟩ := bcell b4
      have z4 : w.heap.size < w4.heap.size := by have := b4.size; simp at this; omega
      go_wp2
      refine bodyPost_ret (v := .tuple #[.agg #[.int .i64 (fitM _ _), .int .i64 (fitS _ _)], .int .i64 (fitE _ _)]) (by simp [results, Tryd.results71, go_sem, c4]) rfl ⟨rfl, ?_⟩
      exact ((bstep (below1 w _) b4).setCell (by simp) _).setCell (by simp) _
  · have HB := hide (unhide HB0 rfl)
    cases neg
    · show Calls Tryd.prog 71 #[.string ⟨l.toArray⟩] w fun e w' => e = .returned (.tuple #[.agg #[.int .i64 (fitM (num a * p10 b.length + num b) b.length), .int .i64 (fitS (num a * p10 b.length + num b) b.length)], .int .i64 (fitE (num a * p10 b.length + num b) b.length)]) ∧ Below w.heap.size w w'
      go_enter Tryd.func71, Tryd.ntmps71
      go_wp2_with fail
      refine (hp.1 _).mono ?_
      rintro e w' ⟨rfl, rfl⟩
      go_wp2_with fail
      refine (hp.2 _).mono ?_
      rintro e w1 ⟨rfl, b1⟩
      obtain ⟨c1, f1⟩ := bcell b1
      have z1 : w.heap.size < w1.heap.size := by have := b1.size; simp at this; omega
      go_wp2_with fail
      refine (digs_any a _ la).mono ?_
      rintro e w' ⟨rfl, rfl⟩
      rw [unhide HA]
      go_wp2_with fail
      refine (digs_any b _ lb).mono ?_
      rintro e w' ⟨rfl, rfl⟩
      rw [unhide HB]
      go_wp2_with fail
      refine (number_any a _ (by omega) (unhide HAD)).mono ?_
      rintro e w' ⟨rfl, rfl⟩
      go_wp2_with fail
      refine (power_any _ _ (by omega) (by omega)).mono ?_
      rintro e w' ⟨rfl, rfl⟩
      rw [Int.toNat_natCast]
      go_wp2_with fail
      refine (number_any b _ (by omega) (unhide HBD)).mono ?_
      rintro e w' ⟨rfl, rfl⟩
      go_wp2_with fail
      refine (fit_any _ _ _).mono ?_
      rintro e w4 ⟨rfl, k4⟩
      have b4 := bstep b1 k4
      clear c1 f1 b1 k4
      obtain ⟨c4, f4⟩ := bcell b4
      have z4 : w.heap.size < w4.heap.size := by have := b4.size; simp at this; omega
      go_wp2
      refine bodyPost_ret (v := .tuple #[.agg #[.int .i64 (fitM _ _), .int .i64 (fitS _ _)], .int .i64 (fitE _ _)]) (by simp [results, Tryd.results71, go_sem, c4]) rfl ⟨rfl, ?_⟩
      exact ((bstep (below1 w _) b4).setCell (by simp) _).setCell (by simp) _
    · show Calls Tryd.prog 71 #[.string ⟨l.toArray⟩] w fun e w' => e = .returned (.tuple #[.agg #[.int .i64 (fitM (-(num a * p10 b.length + num b)) b.length), .int .i64 (fitS (-(num a * p10 b.length + num b)) b.length)], .int .i64 (fitE (-(num a * p10 b.length + num b)) b.length)]) ∧ Below w.heap.size w w'
      go_enter Tryd.func71, Tryd.ntmps71
      go_wp2_with fail
      refine (hp.1 _).mono ?_
      rintro e w' ⟨rfl, rfl⟩
      go_wp2_with fail
      refine (hp.2 _).mono ?_
      rintro e w1 ⟨rfl, b1⟩
      obtain ⟨c1, f1⟩ := bcell b1
      have z1 : w.heap.size < w1.heap.size := by have := b1.size; simp at this; omega
      go_wp2_with fail
      refine (digs_any a _ la).mono ?_
      rintro e w' ⟨rfl, rfl⟩
      rw [unhide HA]
      go_wp2_with fail
      refine (digs_any b _ lb).mono ?_
      rintro e w' ⟨rfl, rfl⟩
      rw [unhide HB]
      go_wp2_with fail
      refine (number_any a _ (by omega) (unhide HAD)).mono ?_
      rintro e w' ⟨rfl, rfl⟩
      go_wp2_with fail
      refine (power_any _ _ (by omega) (by omega)).mono ?_
      rintro e w' ⟨rfl, rfl⟩
      rw [Int.toNat_natCast]
      go_wp2_with fail
      refine (number_any b _ (by omega) (unhide HBD)).mono ?_
      rintro e w' ⟨rfl, rfl⟩
      go_wp2_with fail
      refine (fit_any _ _ _).mono ?_
      rintro e w4 ⟨rfl, k4⟩
      have b4 := bstep b1 k4
      clear c1 f1 b1 k4
      obtain ⟨c4, f4⟩ := bcell b4
      have z4 : w.heap.size < w4.heap.size := by have := b4.size; simp at this; omega
      go_wp2
      refine bodyPost_ret (v := .tuple #[.agg #[.int .i64 (fitM _ _), .int .i64 (fitS _ _)], .int .i64 (fitE _ _)]) (by simp [results, Tryd.results71, go_sem, c4]) rfl ⟨rfl, ?_⟩
      exact ((bstep (below1 w _) b4).setCell (by simp) _).setCell (by simp) _

end Go.Proofs.YtdlfgnmcokdceabDoor

/- The contract of the document's own digits: how many stand at a place. -/
namespace Go.Proofs.YtdlfgnmcokdceabDoor
open Go.RowKit

/- from 'at0' on k digits stand, and no more. -/
def Runs (l : List UInt8) (at0 k : Nat) : Prop := at0 + k ≤ l.length ∧ (∀ j (hj : at0 + j < l.length), j < k → isDig l[at0 + j] = true) ∧ (∀ hlt : at0 + k < l.length, isDig l[at0 + k] = false)

theorem isDig_yes {c : UInt8} (h1 : 48 ≤ (c.toNat : Int)) (h2 : (c.toNat : Int) ≤ 57) : isDig c = true := by unfold isDig; simp; omega
theorem isDig_no {c : UInt8} (h : (c.toNat : Int) < 48 ∨ 57 < (c.toNat : Int)) : isDig c = false := by
  unfold isDig
  rcases h with h | h
  · simp; omega
  · simp; omega

set_option maxHeartbeats 800000 in
theorem rdigs_any (l : List UInt8) (at0 : Nat) (w : World) (hl : l.length ≤ 1000) (ha : at0 ≤ l.length) :
    Calls Tryd.prog 73 #[.string ⟨l.toArray⟩, .int .i64 at0] w fun e w' => (∃ k : Nat, e = .returned (.int .i64 k) ∧ Runs l at0 k) ∧ w' = w := by
  go_enter Tryd.func73, Tryd.ntmps73
  go_wp2_with fail
  go_loop [5] (fun n => ∃ k : Nat, at0 + k ≤ l.length ∧ n = .int .i64 k ∧ Hid (∀ j (hj : at0 + j < l.length), j < k → isDig l[at0 + j] = true)) (fun n => l.length - (intOf n).toNat)
  case atStart => exact ⟨0, by omega, rfl, hide (fun j _ h => absurd h (Nat.not_lt_zero _))⟩
  case round =>
    obtain ⟨k, hk, rfl, H⟩ := hrel
    by_cases hlt : at0 + k < l.length
    · have hge : (⟨l.toArray⟩ : ByteArray)[at0 + k]'(by simpa [ByteArray.size] using hlt) = l[at0 + k] := rfl
      by_cases c1 : (l[at0 + k].toNat : Int) < 48
      · have D := hide (isDig_no (c := l[at0 + k]) (Or.inl c1))
        go_wp2_with fail
        go_ret
        exact ⟨⟨k, rfl, hk, unhide H, fun _ => unhide D⟩, rfl⟩
      · by_cases c2 : 57 < (l[at0 + k].toNat : Int)
        · have D := hide (isDig_no (c := l[at0 + k]) (Or.inr c2))
          go_wp2_with fail
          go_ret
          exact ⟨⟨k, rfl, hk, unhide H, fun _ => unhide D⟩, rfl⟩
        · have D := hide (isDig_yes (c := l[at0 + k]) (by omega) (by omega))
          go_wp2_with fail
          go_round
          case rel =>
            refine ⟨k + 1, by omega, by go_num, hide (fun j hj h => ?_)⟩
            by_cases e : j = k
            · subst e; exact unhide D
            · exact unhide H j hj (by omega)
          case measure => simp [intOf]; omega
    · go_wp2_with fail
      go_ret
      exact ⟨⟨k, rfl, hk, unhide H, fun h => absurd h hlt⟩, rfl⟩
end Go.Proofs.YtdlfgnmcokdceabDoor

/- What a text of a decimal looks like: digits, a point, digits; and what else. -/
namespace Go.Proofs.YtdlfgnmcokdceabDoor
set_option linter.unusedVariables false

theorem irun_app {p : UInt8 → Bool} {A : List UInt8} (h : A.all p = true) (r : List UInt8) : run p (A ++ r) = A.length + run p r := by
  induction A with
  | nil => simp
  | cons c A ih =>
    simp only [List.all_cons, Bool.and_eq_true] at h
    rw [List.cons_append, run, if_pos h.1, ih h.2, List.length_cons]
    omega
theorem irun_self {A : List UInt8} (h : A.all isDig = true) : run isDig A = A.length := by
  have := irun_app h []
  rwa [List.append_nil, run, Nat.add_zero] at this
theorem irun_take (r : List UInt8) : (r.take (run isDig r)).all isDig = true := by
  rw [List.all_eq_true]
  intro c hc
  obtain ⟨i, hi, rfl⟩ := List.getElem_of_mem hc
  rw [List.length_take] at hi
  rw [List.getElem_take]
  exact run_in r i (by omega) (by omega)
theorem runs_eq {l : List UInt8} {at0 k : Nat} (h : Runs l at0 k) : k = run isDig (l.drop at0) := by
  obtain ⟨h1, h2, h3⟩ := h
  have e : l.drop at0 = (l.drop at0).take k ++ (l.drop at0).drop k := (List.take_append_drop _ _).symm
  have ha : ((l.drop at0).take k).all isDig = true := by
    rw [List.all_eq_true]
    intro c hc
    obtain ⟨i, hi, rfl⟩ := List.getElem_of_mem hc
    rw [List.length_take, List.length_drop] at hi
    rw [List.getElem_take, List.getElem_drop]
    exact h2 i (by omega) (by omega)
  have hl : ((l.drop at0).take k).length = k := by rw [List.length_take, List.length_drop]; omega
  rw [e, irun_app ha, hl]
  by_cases hlt : at0 + k < l.length
  · rw [List.drop_drop, run_no hlt (h3 hlt)]; rfl
  · rw [List.drop_drop, run_end (by omega)]; rfl

theorem idx_app {a : List UInt8} (h : a.all isDig = true) (b : List UInt8) : Lib.indexByte (a ++ 46 :: b) 46 = a.length := by
  induction a with
  | nil => simp [Lib.indexByte]
  | cons c a ih =>
    simp only [List.all_cons, Bool.and_eq_true] at h
    have hc : c ≠ 46 := by
      intro e; rw [e] at h; exact absurd h.1 (by decide)
    rw [List.cons_append]
    unfold Lib.indexByte
    rw [ih h.2]
    simp [hc]
theorem idx_dig {a : List UInt8} (h : a.all isDig = true) : Lib.indexByte a 46 = -1 := by
  induction a with
  | nil => rfl
  | cons c a ih =>
    simp only [List.all_cons, Bool.and_eq_true] at h
    have hc : c ≠ 46 := by
      intro e; rw [e] at h; exact absurd h.1 (by decide)
    unfold Lib.indexByte
    rw [ih h.2]
    simp [hc]
theorem idx_at (r : List UInt8) (k : Nat) (h : Lib.indexByte r 46 = k) : ∃ hk : k < r.length, r[k] = 46 := by
  induction r generalizing k with
  | nil => simp [Lib.indexByte] at h
  | cons c r ih =>
    unfold Lib.indexByte at h
    by_cases hc : c = 46
    · rw [if_pos (by simpa using hc)] at h
      have : k = 0 := by omega
      subst this
      exact ⟨by simp, by simpa using hc⟩
    · rw [if_neg (by simpa using hc)] at h
      rcases idx_facts r 46 with e | ⟨j, e, hj⟩
      · rw [e] at h; simp at h
      · rw [e] at h
        have hk : k = j + 1 := by
          have : ¬ ((j : Int) == -1) = true := by simp
          simp only [this] at h
          omega
        subst hk
        obtain ⟨h1, h2⟩ := ih j e
        exact ⟨by simpa using hj, by simpa using h2⟩

/- what is no decimal. -/
def Bad (r : List UInt8) : Prop :=
  run isDig r = 0 ∨ (∃ h : run isDig r < r.length, r[run isDig r].toNat ≠ 46) ∨
  (∃ h : run isDig r < r.length, 1 ≤ run isDig r ∧ r[run isDig r].toNat = 46 ∧ (run isDig (r.drop (run isDig r + 1)) = 0 ∨ run isDig r + 1 + run isDig (r.drop (run isDig r + 1)) < r.length))
theorem digs_parts {a : List UInt8} (h : digs a = true) : a.all isDig = true ∧ 1 ≤ a.length := by
  unfold digs at h
  simp only [Bool.and_eq_true, Bool.not_eq_true', List.isEmpty_eq_false_iff] at h
  exact ⟨h.1, List.length_pos_iff.2 h.2⟩
theorem digs_mk {a : List UInt8} (h : a.all isDig = true) (hl : 1 ≤ a.length) : digs a = true := by
  unfold digs
  simp only [Bool.and_eq_true, Bool.not_eq_true', List.isEmpty_eq_false_iff]
  exact ⟨h, List.length_pos_iff.1 hl⟩
theorem bad_whole {r : List UInt8} (h : Bad r) : digs r = false := by
  cases hd : digs r with
  | false => rfl
  | true =>
    obtain ⟨h1, h2⟩ := digs_parts hd
    have e := irun_self h1
    exfalso
    rcases h with h | ⟨h, -⟩ | ⟨h, -⟩ <;> omega
theorem bad_both {r : List UInt8} (h : Bad r) {k : Nat} (hk : k < r.length) (hc : r[k] = 46) : digs (r.take k) = false ∨ (digs (r.take k) = true ∧ digs (r.drop (k + 1)) = false) := by
  cases hd : digs (r.take k) with
  | false => exact Or.inl rfl
  | true =>
    refine Or.inr ⟨rfl, ?_⟩
    cases hb : digs (r.drop (k + 1)) with
    | false => rfl
    | true =>
      exfalso
      obtain ⟨a1, a2⟩ := digs_parts hd
      obtain ⟨b1, b2⟩ := digs_parts hb
      have hl : (r.take k).length = k := by rw [List.length_take]; omega
      have er : r = r.take k ++ 46 :: r.drop (k + 1) := by
        rw [← hc, ← drop_cons hk, List.take_append_drop]
      have e : run isDig r = k := by
        rw [er, irun_app a1, hl]; rfl
      have eb := irun_self b1
      rw [List.length_drop] at eb b2
      rcases h with h | ⟨h, hx⟩ | ⟨h, h1, h46, hx⟩
      · omega
      · simp only [e] at hx
        rw [hc] at hx
        exact hx rfl
      · rw [e, eb] at hx
        omega
/- a text is a decimal's, or it is none. -/
theorem shapes (r : List UInt8) : Bad r ∨ (r.all isDig = true ∧ 1 ≤ r.length) ∨ ∃ a b, r = a ++ 46 :: b ∧ a.all isDig = true ∧ b.all isDig = true ∧ 1 ≤ a.length ∧ 1 ≤ b.length := by
  by_cases h0 : run isDig r = 0
  · exact Or.inl (Or.inl h0)
  by_cases hl : run isDig r < r.length
  · by_cases h46 : r[run isDig r].toNat = 46
    · by_cases hb : run isDig (r.drop (run isDig r + 1)) = 0 ∨ run isDig r + 1 + run isDig (r.drop (run isDig r + 1)) < r.length
      · exact Or.inl (Or.inr (Or.inr ⟨hl, by omega, h46, hb⟩))
      · refine Or.inr (Or.inr ⟨r.take (run isDig r), r.drop (run isDig r + 1), ?_, irun_take r, ?_, ?_, ?_⟩)
        · have : r[run isDig r] = 46 := UInt8.toNat.inj (by rw [h46]; rfl)
          rw [← this, ← drop_cons hl, List.take_append_drop]
        · have h1 := irun_take (r.drop (run isDig r + 1))
          have h2 := run_le isDig (r.drop (run isDig r + 1))
          rw [List.length_drop] at h2
          rw [List.take_of_length_le (by rw [List.length_drop]; omega)] at h1
          exact h1
        · rw [List.length_take]; omega
        · have h2 := run_le isDig (r.drop (run isDig r + 1))
          omega
    · exact Or.inl (Or.inr (Or.inl ⟨hl, h46⟩))
  · have h1 := irun_take r
    have h2 := run_le isDig r
    rw [List.take_of_length_le (by omega)] at h1
    exact Or.inr (Or.inl ⟨h1, by omega⟩)
end Go.Proofs.YtdlfgnmcokdceabDoor

/- Small steps on 'nothing below has turned', for regions whose order is drawn. -/
namespace Go.Proofs.YtdlfgnmcokdceabDoor
open Go.RowKit

theorem keep_call {V x y : World} {p : Prop} (h : Below V.heap.size V x ∧ p) (k : Below x.heap.size x y) : Below V.heap.size V y := bstep h.1 k
theorem keep_alloc {V x : World} {p : Prop} (h : Below V.heap.size V x ∧ p) (o : Obj) : Below V.heap.size V (x.alloc o) := h.1.alloc h.1.size o
theorem keep_set {V x : World} {p : Prop} (h : Below V.heap.size V x ∧ p) {a : Addr} (ha : V.heap.size ≤ a.block) (v : Value) : Below V.heap.size V (x.setCell a v) := h.1.setCell ha v
theorem keep_set2 {V x : World} {p : Prop} (h : Below V.heap.size V x ∧ p) {a b : Addr} (ha : V.heap.size ≤ a.block) (hb : V.heap.size ≤ b.block) (v u : Value) : Below V.heap.size V ((x.setCell a v).setCell b u) := (h.1.setCell ha v).setCell hb u

theorem kcell {x y : World} (k : Below x.heap.size x y) {b o : Nat} {v : Value} (h : b < x.heap.size) (hc : x.cell? ⟨b, o, none⟩ = some v) : y.cell? ⟨b, o, none⟩ = some v := ((bcell k).1 b o h).trans hc
theorem kfroz {x y : World} (k : Below x.heap.size x y) {b o : Nat} (h : b < x.heap.size) (hc : x.frozen? ⟨b, o, none⟩ = false) : y.frozen? ⟨b, o, none⟩ = false := ((bcell k).2 b o h).trans hc

/- in a world a decimal lies in the block b. -/
def Has (V : World) (b : Nat) (m s : Int) : Prop := b < V.heap.size ∧ V.cell? ⟨b, 0, none⟩ = some (.int .i64 m) ∧ V.cell? ⟨b, 1, none⟩ = some (.int .i64 s)
theorem Has.call {V x : World} {b : Nat} {m s : Int} (h : Has V b m s) (k : Below V.heap.size V x) : Has x b m s := ⟨Nat.lt_of_lt_of_le h.1 k.size, kcell k h.1 h.2.1, kcell k h.1 h.2.2⟩
theorem Has.put {V : World} {b : Nat} {m s : Int} (h : Has V b m s) (o : Obj) : Has (V.alloc o) b m s := by
  obtain ⟨h1, h2, h3⟩ := h
  exact ⟨by simp; omega, by go_simp, by go_simp⟩
theorem Has.new (V : World) (m s : Int) (t : TypeId) : Has (V.alloc (Obj.cells #[.int .i64 m, .int .i64 s] t)) V.heap.size m s := ⟨by simp, by go_simp, by go_simp⟩

end Go.Proofs.YtdlfgnmcokdceabDoor

/- The plain reckoning of decimals that the walks lean on: powers of ten, rounding half to even, noughts taken off, what Fit answers. -/
namespace Go.Proofs.Ytpoejhdkgfikdaa

def p10 : Nat → Int
  | 0 => 1
  | n + 1 => p10 n * 10

theorem p10_succ (n : Nat) : p10 (n + 1) = p10 n * 10 := rfl

theorem p10_pos (n : Nat) : 1 ≤ p10 n := by
  induction n with
  | zero => decide
  | succ n ih => rw [p10_succ]; omega

theorem p10_mono {a b : Nat} (h : a ≤ b) : p10 a ≤ p10 b := by
  induction h with
  | refl => omega
  | step _ ih => rw [p10_succ]; have := p10_pos a; omega

theorem p10_bd {n : Nat} (h : n ≤ 8) : p10 n ≤ 100000000 := by
  have := p10_mono h
  have e : p10 8 = 100000000 := by decide
  omega

theorem p10_add (a b : Nat) : p10 (a + b) = p10 a * p10 b := by
  induction b with
  | zero => simp [p10]
  | succ b ih => rw [← Nat.add_assoc, p10_succ, p10_succ, ih, Int.mul_assoc]

/- n by d, rounded half to even. -/
def half (n d : Int) : Int :=
  if d < 2 * (n % d) ∨ (2 * (n % d) = d ∧ (n / d) % 2 ≠ 0) then n / d + 1 else n / d

/- noughts at the end taken off. -/
def trimM : Int → Nat → Int
  | m, 0 => m
  | m, s + 1 => if m % 10 = 0 then trimM (m / 10) s else m
def trimS : Int → Nat → Nat
  | _, 0 => 0
  | m, s + 1 => if m % 10 = 0 then trimS (m / 10) s else s + 1

/- may m be an M? -/
def okM (m : Int) : Bool := decide (-1000000000 ≤ m ∧ m ≤ 1000000000)

/- what is found from t - 1 down: M, S, the error. -/
def fitTM (m : Int) (s : Nat) : Nat → Int
  | 0 => 0
  | t + 1 => if okM (half m (p10 (s - t))) = true then trimM (half m (p10 (s - t))) t else fitTM m s t
def fitTS (m : Int) (s : Nat) : Nat → Nat
  | 0 => 0
  | t + 1 => if okM (half m (p10 (s - t))) = true then trimS (half m (p10 (s - t))) t else fitTS m s t
def fitTE (m : Int) (s : Nat) : Nat → Int
  | 0 => 3
  | t + 1 => if okM (half m (p10 (s - t))) = true then 0 else fitTE m s t

def argB (m s : Int) : Bool := decide (m < -1000000000000000000 ∨ 1000000000000000000 < m ∨ s < 0 ∨ 8 < s)

def fitM (m s : Int) : Int := if argB m s = true then 0 else fitTM m s.toNat (min s.toNat 4 + 1)
def fitS (m s : Int) : Int := if argB m s = true then 0 else (fitTS m s.toNat (min s.toNat 4 + 1) : Nat)
def fitE (m s : Int) : Int := if argB m s = true then 1 else fitTE m s.toNat (min s.toNat 4 + 1)

theorem half_bd (n d : Int) : n / d ≤ half n d ∧ half n d ≤ n / d + 1 := by
  unfold half; split <;> omega

theorem div_abs (n d B : Int) (hd : 1 ≤ d) (h0 : 0 ≤ B) (h1 : -B ≤ n) (h2 : n ≤ B) : -B ≤ n / d ∧ n / d ≤ B := by
  constructor
  · rw [Int.le_ediv_iff_mul_le (by omega)]
    have : B * 1 ≤ B * d := Int.mul_le_mul_of_nonneg_left hd h0
    rw [Int.neg_mul]; omega
  · apply Int.ediv_le_of_le_mul (by omega)
    have : B * 1 ≤ B * d := Int.mul_le_mul_of_nonneg_left hd h0
    omega

theorem half_one (n : Int) : half n 1 = n := by
  unfold half
  rw [if_neg (by omega)]; simp

theorem okM_iff (m : Int) : okM m = true ↔ (-1000000000 ≤ m ∧ m ≤ 1000000000) := by
  unfold okM; simp

/- may a decimal be? -/
def isB (m s : Int) : Bool := okM m && (decide (0 ≤ s) && (decide (s ≤ 4) && (decide (s = 0) || decide (m % 10 ≠ 0))))

theorem isB_bd {m s : Int} (h : isB m s = true) : -1000000000 ≤ m ∧ m ≤ 1000000000 ∧ 0 ≤ s ∧ s ≤ 4 := by
  unfold isB okM at h; simp at h; omega

/- M at the scale t. -/
def upM (m s t : Int) : Int := m * p10 (t - s).toNat

theorem mul_bd (m p B C : Int) (h1 : -B ≤ m) (h2 : m ≤ B) (hp : 0 ≤ p) (hC : p ≤ C) (hB : 0 ≤ B) : -(B * C) ≤ m * p ∧ m * p ≤ B * C := by
  have a := Int.mul_le_mul_of_nonneg_right h2 hp
  have b := Int.mul_le_mul_of_nonneg_right h1 hp
  have c := Int.mul_le_mul_of_nonneg_left hC hB
  rw [Int.neg_mul] at b
  omega

theorem upM_bd {m s t : Int} (h1 : -1000000000 ≤ m) (h2 : m ≤ 1000000000) (hs : t - s ≤ 8) : -100000000000000000 ≤ upM m s t ∧ upM m s t ≤ 100000000000000000 := by
  have p1 := p10_pos (t - s).toNat
  have p2 := p10_bd (n := (t - s).toNat) (by omega)
  have := mul_bd m (p10 (t - s).toNat) 1000000000 100000000 h1 h2 (by omega) p2 (by omega)
  unfold upM
  omega

/- a by b in ten-thousandths, rounded half to even. -/
def divQ (m s n t : Int) : Int := if n < 0 then half (-(m * p10 (4 + t - s).toNat)) (-n) else half (m * p10 (4 + t - s).toNat) n

/- which is less, at one scale. -/
def cmpI (x y : Int) : Int := if x < y then -1 else if y < x then 1 else 0

end Go.Proofs.Ytpoejhdkgfikdaa

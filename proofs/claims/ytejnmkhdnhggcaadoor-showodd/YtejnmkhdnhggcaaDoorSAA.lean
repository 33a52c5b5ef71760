/- Math B0 Pow Base T10 Fit DIs Is Align Cmp: laid together. -/
import Derived.Test.YtejnmkhdnhggcaaDoorProg
import Derived.WalkKit
import Derived.WalkSpells
import Derived.WalkLawsBesides
import Derived.Deep.QuietTactic
import Derived.BigQuiet
/- The plain reckoning of decimals that the walks lean on: powers of ten, rounding half to even, noughts taken off, what Fit answers. -/
namespace Go.Proofs.YtejnmkhdnhggcaaDoor

def p10 : Nat → Int
  | 0 => 1
  | n + 1 => p10 n * 10

theorem p10_succ (n : Nat) : p10 (n + 1) = p10 n * 10 := rfl

theorem p10_pos (n : Nat) : 1 ≤ p10 n := by
  induction n with
  | zero => decide
  | succ n ih => rw [p10_succ]; omega

theorem p10_mono {a b : Nat} (h : a ≤ b) : p10 a ≤ p10 b := by
  induction h with
  | refl => omega
  | step _ ih => rw [p10_succ]; have := p10_pos a; omega

theorem p10_bd {n : Nat} (h : n ≤ 8) : p10 n ≤ 100000000 := by
  have := p10_mono h
  have e : p10 8 = 100000000 := by decide
  omega

theorem p10_add (a b : Nat) : p10 (a + b) = p10 a * p10 b := by
  induction b with
  | zero => simp [p10]
  | succ b ih => rw [← Nat.add_assoc, p10_succ, p10_succ, ih, Int.mul_assoc]

/- n by d, rounded half to even. -/
def half (n d : Int) : Int :=
  if d < 2 * (n % d) ∨ (2 * (n % d) = d ∧ (n / d) % 2 ≠ 0) then n / d + 1 else n / d

/- noughts at the end taken off. -/
def trimM : Int → Nat → Int
  | m, 0 => m
  | m, s + 1 => if m % 10 = 0 then trimM (m / 10) s else m
def trimS : Int → Nat → Nat
  | _, 0 => 0
  | m, s + 1 => if m % 10 = 0 then trimS (m / 10) s else s + 1

/- may m be an M? -/
def okM (m : Int) : Bool := decide (-1000000000 ≤ m ∧ m ≤ 1000000000)

/- what is found from t - 1 down: M, S, the error. -/
def fitTM (m : Int) (s : Nat) : Nat → Int
  | 0 => 0
  | t + 1 => if okM (half m (p10 (s - t))) = true then trimM (half m (p10 (s - t))) t else fitTM m s t
def fitTS (m : Int) (s : Nat) : Nat → Nat
  | 0 => 0
  | t + 1 => if okM (half m (p10 (s - t))) = true then trimS (half m (p10 (s - t))) t else fitTS m s t
def fitTE (m : Int) (s : Nat) : Nat → Int
  | 0 => 3
  | t + 1 => if okM (half m (p10 (s - t))) = true then 0 else fitTE m s t

def argB (m s : Int) : Bool := decide (m < -1000000000000000000 ∨ 1000000000000000000 < m ∨ s < 0 ∨ 8 < s)

def fitM (m s : Int) : Int := if argB m s = true then 0 else fitTM m s.toNat (min s.toNat 4 + 1)
def fitS (m s : Int) : Int := if argB m s = true then 0 else (fitTS m s.toNat (min s.toNat 4 + 1) : Nat)
def fitE (m s : Int) : Int := if argB m s = true then 1 else fitTE m s.toNat (min s.toNat 4 + 1)

theorem half_bd (n d : Int) : n / d ≤ half n d ∧ half n d ≤ n / d + 1 := by
  unfold half; split <;> omega

theorem div_abs (n d B : Int) (hd : 1 ≤ d) (h0 : 0 ≤ B) (h1 : -B ≤ n) (h2 : n ≤ B) : -B ≤ n / d ∧ n / d ≤ B := by
  constructor
  · rw [Int.le_ediv_iff_mul_le (by omega)]
    have : B * 1 ≤ B * d := Int.mul_le_mul_of_nonneg_left hd h0
    rw [Int.neg_mul]; omega
  · apply Int.ediv_le_of_le_mul (by omega)
    have : B * 1 ≤ B * d := Int.mul_le_mul_of_nonneg_left hd h0
    omega

theorem half_one (n : Int) : half n 1 = n := by
  unfold half
  rw [if_neg (by omega)]; simp

theorem okM_iff (m : Int) : okM m = true ↔ (-1000000000 ≤ m ∧ m ≤ 1000000000) := by
  unfold okM; simp

/- may a decimal be? -/
def isB (m s : Int) : Bool := okM m && (decide (0 ≤ s) && (decide (s ≤ 4) && (decide (s = 0) || decide (m % 10 ≠ 0))))

theorem isB_bd {m s : Int} (h : isB m s = true) : -1000000000 ≤ m ∧ m ≤ 1000000000 ∧ 0 ≤ s ∧ s ≤ 4 := by
  unfold isB okM at h; simp at h; omega

/- M at the scale t. -/
def upM (m s t : Int) : Int := m * p10 (t - s).toNat

theorem mul_bd (m p B C : Int) (h1 : -B ≤ m) (h2 : m ≤ B) (hp : 0 ≤ p) (hC : p ≤ C) (hB : 0 ≤ B) : -(B * C) ≤ m * p ∧ m * p ≤ B * C := by
  have a := Int.mul_le_mul_of_nonneg_right h2 hp
  have b := Int.mul_le_mul_of_nonneg_right h1 hp
  have c := Int.mul_le_mul_of_nonneg_left hC hB
  rw [Int.neg_mul] at b
  omega

theorem upM_bd {m s t : Int} (h1 : -1000000000 ≤ m) (h2 : m ≤ 1000000000) (hs : t - s ≤ 8) : -100000000000000000 ≤ upM m s t ∧ upM m s t ≤ 100000000000000000 := by
  have p1 := p10_pos (t - s).toNat
  have p2 := p10_bd (n := (t - s).toNat) (by omega)
  have := mul_bd m (p10 (t - s).toNat) 1000000000 100000000 h1 h2 (by omega) p2 (by omega)
  unfold upM
  omega

/- a by b in ten-thousandths, rounded half to even. -/
def divQ (m s n t : Int) : Int := if n < 0 then half (-(m * p10 (4 + t - s).toNat)) (-n) else half (m * p10 (4 + t - s).toNat) n

/- which is less, at one scale. -/
def cmpI (x y : Int) : Int := if x < y then -1 else if y < x then 1 else 0

end Go.Proofs.YtejnmkhdnhggcaaDoor

/- Small steps that all walks share. -/
namespace Go.Proofs.YtejnmkhdnhggcaaDoor
open Go.RowKit

theorem ret_int {k : IntKind} {a b : Int} (h : a = b) : Ending.returned (.int k a) = .returned (.int k b) := by rw [h]
theorem hide {p : Prop} (h : p) : Hid p := h
theorem unhide {p : Prop} (h : Hid p) : p := h
theorem bcell {W w1 : World} (hb : Below W.heap.size W w1) : (∀ b o, b < W.heap.size → w1.cell? ⟨b, o, none⟩ = W.cell? ⟨b, o, none⟩) ∧ (∀ b o, b < W.heap.size → w1.frozen? ⟨b, o, none⟩ = W.frozen? ⟨b, o, none⟩) :=
  ⟨fun b o h => hb.cell (p := ⟨b, o, none⟩) h, fun b o h => hb.frozen (p := ⟨b, o, none⟩) h⟩
theorem bstep {W w1 w2 : World} (h : Below W.heap.size W w1) (k : Below w1.heap.size w1 w2) : Below W.heap.size W w2 := h.trans (k.mono h.size)
theorem below1 (w : World) (a : Obj) : Below w.heap.size w (w.alloc a) := (Below.refl _ _).alloc (Nat.le_refl _) _
theorem below2 (w : World) (a b : Obj) : Below w.heap.size w ((w.alloc a).alloc b) := (below1 w a).alloc (by simp) _
theorem below3 (w : World) (a b c : Obj) : Below w.heap.size w (((w.alloc a).alloc b).alloc c) := (below2 w a b).alloc (by simp; omega) _
theorem i64_in {n : Int} (h1 : -9223372036854775808 ≤ n) (h2 : n ≤ 9223372036854775807) : IntKind.i64.wrap n = n := by
  show (if (IntKind.i64.signed && decide (n % (2 ^ 64 : Int) ≥ (2 ^ 63 : Int))) = true then n % (2 ^ 64 : Int) - (2 ^ 64 : Int) else n % (2 ^ 64 : Int)) = n
  simp only [IntKind.signed, Bool.true_and, decide_eq_true_eq]
  split <;> omega
theorem ret_bool {a b : Bool} (h : a = b) : Ending.returned (.bool a) = .returned (.bool b) := by rw [h]

end Go.Proofs.YtejnmkhdnhggcaaDoor

/- The contracts of dec's small functions: power, holds. -/
namespace Go.Proofs.YtejnmkhdnhggcaaDoor
open Go.RowKit

set_option maxHeartbeats 400000 in
theorem power_any (n : Int) (w : World) (h0 : 0 ≤ n) (h8 : n ≤ 8) :
    Calls Tryd.prog 45 #[.int .i64 n] w fun e w' => e = .returned (.int .i64 (p10 n.toNat)) ∧ w' = w := by
  obtain ⟨m, rfl⟩ := Int.eq_ofNat_of_zero_le h0
  rw [Int.toNat_natCast]
  go_enter Tryd.func45, Tryd.ntmps45
  go_wp2
  go_loop [3, 5] (fun p i => ∃ k : Nat, k ≤ m ∧ i = .int .i64 k ∧ p = .int .i64 (p10 k)) (fun _ i => m - (intOf i).toNat)
  case atStart => exact ⟨0, Nat.zero_le _, rfl, rfl⟩
  case round =>
    obtain ⟨k, hk, rfl, rfl⟩ := hrel
    have b1 := p10_pos k
    have b2 := p10_bd (n := k) (by omega)
    by_cases hlt : k < m
    · go_wp2
      go_round
      case rel => exact ⟨k + 1, by omega, by go_num, by rw [p10_succ]⟩
      case measure => simp [intOf]; omega
    · have e : k = m := by omega
      subst e
      go_wp2
      go_ret
      exact ⟨rfl, rfl⟩

set_option maxHeartbeats 400000 in
theorem holds_any (m : Int) (w : World) :
    Calls Tryd.prog 56 #[.int .i64 m] w fun e w' => e = .returned (.bool (okM m)) ∧ w' = w := by
  by_cases h1 : -1000000000 ≤ m
  · by_cases h2 : m ≤ 1000000000
    · go_enter Tryd.func56, Tryd.ntmps56
      go_wp2
      go_ret
      exact ⟨ret_bool (by simp [okM, h1, h2]), rfl⟩
    · go_enter Tryd.func56, Tryd.ntmps56
      go_wp2
      go_ret
      exact ⟨ret_bool (by simp [okM, h1, h2]), rfl⟩
  · go_enter Tryd.func56, Tryd.ntmps56
    go_wp2
    go_ret
    exact ⟨ret_bool (by simp [okM]; omega), rfl⟩

end Go.Proofs.YtejnmkhdnhggcaaDoor

/- The contracts of dec's small functions: floor, halfEven (power and holds: Pow). -/
namespace Go.Proofs.YtejnmkhdnhggcaaDoor
open Go.RowKit

theorem tdiv_floor (n d : Int) (hd : 1 ≤ d) : (n.tmod d < 0 → n.tdiv d - 1 = n / d) ∧ (¬ n.tmod d < 0 → n.tdiv d = n / d) := by
  have hm := Int.tmod_lt_of_pos n (b := d) (by omega)
  have hm2 := Int.lt_tmod_of_pos n (b := d) (by omega)
  have he := Int.mul_tdiv_add_tmod n d
  have h1 := Int.emod_nonneg n (b := d) (by omega)
  have h2 := Int.emod_lt_of_pos n (b := d) (by omega)
  have h3 := Int.mul_ediv_add_emod n d
  constructor
  · intro h
    apply Eq.symm
    rw [Int.ediv_eq_iff_of_pos (by omega)]
    have : (n.tdiv d - 1) * d = d * n.tdiv d - d := by rw [Int.sub_mul, Int.mul_comm]; omega
    have h' : (n.tdiv d - 1 + 1) * d = d * n.tdiv d := by rw [Int.sub_add_cancel, Int.mul_comm]
    constructor <;> omega
  · intro h
    apply Eq.symm
    rw [Int.ediv_eq_iff_of_pos (by omega)]
    have : (n.tdiv d) * d = d * n.tdiv d := Int.mul_comm _ _
    have h' : (n.tdiv d + 1) * d = d * n.tdiv d + d := by rw [Int.add_mul, Int.mul_comm]; omega
    constructor <;> omega

theorem tdiv_bd (n d B : Int) (hd : 1 ≤ d) (h0 : 0 ≤ B) (h1 : -B ≤ n) (h2 : n ≤ B) : -B ≤ n.tdiv d ∧ n.tdiv d ≤ B + 1 := by
  have ⟨a, b⟩ := tdiv_floor n d hd
  have := div_abs n d B hd h0 h1 h2
  by_cases h : n.tmod d < 0
  · have := a h; omega
  · have := b h; omega

theorem tmod2 (q : Int) : (q.tmod 2 != 0) = decide (q % 2 ≠ 0) := by
  have : (q.tmod 2 = 0) ↔ (q % 2 = 0) := by
    rw [← Int.dvd_iff_tmod_eq_zero, ← Int.dvd_iff_emod_eq_zero]
  by_cases h0 : q % 2 = 0
  · simp [h0, this.2 h0]
  · have h1 := mt this.1 h0
    simp [h0, h1]

end Go.Proofs.YtejnmkhdnhggcaaDoor

/- A rest by ten. -/
namespace Go.Proofs.YtejnmkhdnhggcaaDoor
open Go.RowKit

theorem tmod10 (m : Int) : (m.tmod 10 == 0) = decide (m % 10 = 0) := by
  have : (m.tmod 10 = 0) ↔ (m % 10 = 0) := by
    rw [← Int.dvd_iff_tmod_eq_zero, ← Int.dvd_iff_emod_eq_zero]
  by_cases h0 : m % 10 = 0
  · simp [h0, this.2 h0]
  · have h1 := mt this.1 h0
    simp [h0, h1]

end Go.Proofs.YtejnmkhdnhggcaaDoor

/- The contracts of dec's trim and Fit. -/
namespace Go.Proofs.YtejnmkhdnhggcaaDoor
open Go.RowKit

theorem tdiv10 (m : Int) (h : m % 10 = 0) : m.tdiv 10 = m / 10 := by
  have ⟨_, b⟩ := tdiv_floor m 10 (by omega)
  apply b
  have : m.tmod 10 = 0 := by rw [← Int.dvd_iff_tmod_eq_zero, Int.dvd_iff_emod_eq_zero]; exact h
  omega

end Go.Proofs.YtejnmkhdnhggcaaDoor

/- The contract of dec's Is. -/
namespace Go.Proofs.YtejnmkhdnhggcaaDoor
open Go.RowKit

set_option maxHeartbeats 400000 in
theorem is_any (m s : Int) (w : World) :
    Calls Tryd.prog 43 #[.agg #[.int .i64 m, .int .i64 s]] w fun e w' => e = .returned (.bool (isB m s)) ∧ Below w.heap.size w w' := by
  unfold isB
  have tm := tmod10 m
  by_cases h1 : okM m = true
  · by_cases h2 : 0 ≤ s
    · by_cases h3 : s ≤ 4
      · by_cases h4 : s = 0
        · subst h4
          clear tm
          go_enter Tryd.func43, Tryd.ntmps43
          go_wp2_with (go_at_call 56; refine (holds_any _ _).mono ?_; rintro e w' ⟨rfl, rfl⟩)
          go_ret
          exact ⟨ret_bool (by simp [h1]), (Below.refl _ _).alloc (Nat.le_refl _) _⟩
        · have h4' : (s == 0) = false := by simpa using h4
          by_cases h5 : m % 10 = 0
          · have tm' : (m.tmod 10 != 0) = false := by unfold bne; rw [tm]; simp [h5]
            have H5 := hide h5
            have H4 := hide h4
            clear tm h4 h5
            go_enter Tryd.func43, Tryd.ntmps43
            go_wp2_with (go_at_call 56; refine (holds_any _ _).mono ?_; rintro e w' ⟨rfl, rfl⟩)
            go_ret
            exact ⟨ret_bool (by have := unhide H5; have := unhide H4; simp [*]), (Below.refl _ _).alloc (Nat.le_refl _) _⟩
          · have tm' : (m.tmod 10 != 0) = true := by unfold bne; rw [tm]; simp [h5]
            have H5 := hide h5
            have H4 := hide h4
            clear tm h4 h5
            go_enter Tryd.func43, Tryd.ntmps43
            go_wp2_with (go_at_call 56; refine (holds_any _ _).mono ?_; rintro e w' ⟨rfl, rfl⟩)
            go_ret
            exact ⟨ret_bool (by have := unhide H5; have := unhide H4; simp [*]), (Below.refl _ _).alloc (Nat.le_refl _) _⟩
      · clear tm
        go_enter Tryd.func43, Tryd.ntmps43
        go_wp2_with (go_at_call 56; refine (holds_any _ _).mono ?_; rintro e w' ⟨rfl, rfl⟩)
        go_ret
        exact ⟨ret_bool (by have : ¬ s ≤ 4 := by omega
                            simp [h1, this]), (Below.refl _ _).alloc (Nat.le_refl _) _⟩
    · clear tm
      go_enter Tryd.func43, Tryd.ntmps43
      go_wp2_with (go_at_call 56; refine (holds_any _ _).mono ?_; rintro e w' ⟨rfl, rfl⟩)
      go_ret
      exact ⟨ret_bool (by have : ¬ 0 ≤ s := by omega
                          simp [h1, this]), (Below.refl _ _).alloc (Nat.le_refl _) _⟩
  · have h1' : okM m = false := by simpa using h1
    clear tm h1
    go_enter Tryd.func43, Tryd.ntmps43
    go_wp2_with (go_at_call 56; refine (holds_any _ _).mono ?_; rintro e w' ⟨rfl, rfl⟩)
    go_ret
    exact ⟨ret_bool (by simp [h1']), (Below.refl _ _).alloc (Nat.le_refl _) _⟩

end Go.Proofs.YtejnmkhdnhggcaaDoor

/- The contracts of dec's Fit, for all arguments (Is: DIs). -/
namespace Go.Proofs.YtejnmkhdnhggcaaDoor
open Go.RowKit

end Go.Proofs.YtejnmkhdnhggcaaDoor

/- The contract of dec's align, for decimals that may be. -/
namespace Go.Proofs.YtejnmkhdnhggcaaDoor
open Go.RowKit

set_option maxHeartbeats 400000 in
theorem align_any (m s n t : Int) (w : World) (ha : isB m s = true) (hb : isB n t = true) :
    Calls Tryd.prog 55 #[.agg #[.int .i64 m, .int .i64 s], .agg #[.int .i64 n, .int .i64 t]] w fun e w' => e = .returned (.tuple #[.int .i64 (upM m s (max s t)), .int .i64 (upM n t (max s t)), .int .i64 (max s t)]) ∧ Below w.heap.size w w' := by
  have ⟨m1, m2, s1, s2⟩ := isB_bd ha
  have ⟨n1, n2, t1, t2⟩ := isB_bd hb
  clear ha hb
  have ub1 := upM_bd (m := m) (s := s) (t := max s t) m1 m2 (by omega)
  have ub2 := upM_bd (m := n) (s := t) (t := max s t) n1 n2 (by omega)
  unfold upM at *
  by_cases hst : s < t
  · have e0 : max s t = t := by omega
    rw [e0] at ub1 ub2 ⊢
    rw [show (t - t).toNat = 0 by omega] at ub2 ⊢
    clear e0
    go_enter Tryd.func55, Tryd.ntmps55
    go_wp2_with fail
    go_quiet ((go_at_call 45; exact Calls.quiet_of_same (power_any _ _ (by omega) (by omega))))
    go_wp2
    go_ret3
    exact ⟨rfl, below_drewN (((Below.refl _ _).alloc (Nat.le_refl _) _).alloc (by simp) _) _⟩
  · have e0 : max s t = s := by omega
    rw [e0] at ub1 ub2 ⊢
    rw [show (s - s).toNat = 0 by omega] at ub1 ⊢
    clear e0
    go_enter Tryd.func55, Tryd.ntmps55
    go_wp2_with fail
    go_quiet ((go_at_call 45; exact Calls.quiet_of_same (power_any _ _ (by omega) (by omega))))
    go_wp2
    go_ret3
    exact ⟨rfl, below_drewN (((Below.refl _ _).alloc (Nat.le_refl _) _).alloc (by simp) _) _⟩

end Go.Proofs.YtejnmkhdnhggcaaDoor

/- The contract of dec's Cmp, for decimals that may be. -/
namespace Go.Proofs.YtejnmkhdnhggcaaDoor
open Go.RowKit

set_option maxHeartbeats 800000 in
theorem cmp_any (m s n t : Int) (w : World) (ha : isB m s = true) (hb : isB n t = true) :
    Calls Tryd.prog 40 #[.agg #[.int .i64 m, .int .i64 s], .agg #[.int .i64 n, .int .i64 t]] w fun e w' => e = .returned (.int .i64 (cmpI (upM m s (max s t)) (upM n t (max s t)))) ∧ Below w.heap.size w w' := by
  generalize hx : upM m s (max s t) = x
  generalize hy : upM n t (max s t) = y
  generalize hf : cmpI x y = f
  have HA := hide ha; have HB := hide hb; have HX := hide hx; have HY := hide hy
  clear ha hb hx hy
  by_cases c1 : x < y
  · have FIN := hide (show f = -1 by rw [← hf]; exact if_pos c1)
    clear hf
    go_enter Tryd.func40, Tryd.ntmps40
    go_wp2_with fail
    refine (is_any _ _ _).mono ?_
    rintro e w1 ⟨rfl, b1⟩
    rw [unhide HA]
    obtain ⟨c1, f1⟩ := bcell b1
    go_wp2_with fail
    refine (is_any _ _ _).mono ?_
    rintro e w2 ⟨rfl, k2⟩
    rw [unhide HB]
    have b2 := bstep b1 k2
    clear c1 f1 b1 k2
    obtain ⟨c2, f2⟩ := bcell b2
    go_wp2_with fail
    refine (align_any _ _ _ _ _ (unhide HA) (unhide HB)).mono ?_
    rintro e w3 ⟨rfl, k3⟩
    have b3 := bstep b2 k3
    clear c2 f2 b2 k3
    rw [unhide HX, unhide HY]
    clear HX HY HA HB
    go_wp2
    go_ret
    exact ⟨ret_int (unhide FIN).symm, bstep (below2 w _ _) b3⟩
  · by_cases c2 : y < x
    · have FIN := hide (show f = 1 by rw [← hf]; unfold cmpI; rw [if_neg c1, if_pos c2])
      clear hf
      go_enter Tryd.func40, Tryd.ntmps40
      go_wp2_with fail
      refine (is_any _ _ _).mono ?_
      rintro e w1 ⟨rfl, b1⟩
      rw [unhide HA]
      obtain ⟨c1, f1⟩ := bcell b1
      go_wp2_with fail
      refine (is_any _ _ _).mono ?_
      rintro e w2 ⟨rfl, k2⟩
      rw [unhide HB]
      have b2 := bstep b1 k2
      clear c1 f1 b1 k2
      obtain ⟨c2, f2⟩ := bcell b2
      go_wp2_with fail
      refine (align_any _ _ _ _ _ (unhide HA) (unhide HB)).mono ?_
      rintro e w3 ⟨rfl, k3⟩
      have b3 := bstep b2 k3
      clear c2 f2 b2 k3
      rw [unhide HX, unhide HY]
      clear HX HY HA HB
      go_wp2
      go_ret
      exact ⟨ret_int (unhide FIN).symm, bstep (below2 w _ _) b3⟩
    · have FIN := hide (show f = 0 by rw [← hf]; unfold cmpI; rw [if_neg c1, if_neg c2])
      clear hf
      go_enter Tryd.func40, Tryd.ntmps40
      go_wp2_with fail
      refine (is_any _ _ _).mono ?_
      rintro e w1 ⟨rfl, b1⟩
      rw [unhide HA]
      obtain ⟨c1, f1⟩ := bcell b1
      go_wp2_with fail
      refine (is_any _ _ _).mono ?_
      rintro e w2 ⟨rfl, k2⟩
      rw [unhide HB]
      have b2 := bstep b1 k2
      clear c1 f1 b1 k2
      obtain ⟨c2, f2⟩ := bcell b2
      go_wp2_with fail
      refine (align_any _ _ _ _ _ (unhide HA) (unhide HB)).mono ?_
      rintro e w3 ⟨rfl, k3⟩
      have b3 := bstep b2 k3
      clear c2 f2 b2 k3
      rw [unhide HX, unhide HY]
      clear HX HY HA HB
      go_wp2
      go_ret
      exact ⟨ret_int (unhide FIN).symm, bstep (below2 w _ _) b3⟩

end Go.Proofs.YtejnmkhdnhggcaaDoor

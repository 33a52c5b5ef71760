/- Math B0 KMath KMem Pow Base Itoa KLay KTie: laid together. -/
import Derived.Test.YtamnndocbnbkiaaDoorProg
import Derived.WalkKit
import Derived.WalkSpells
import Derived.WalkLawsBesides
import Derived.Lib.ItoaNum
import Derived.Lib.ItoaMem
import Derived.Lib.AtoiAllCases
import Derived.Deep.Slices
import Derived.Deep.AppendLies
import Derived.Laws.AppendOwnNone
import Derived.Lib.OwnBridge
import Derived.Lib.AppendStr
import Derived.Lib.UnsafeStr
import Derived.Test.YtamnndocbnbkiaaDoorShelf
import Derived.Lib.LaidTab
import Derived.Lib.ItoaLen
import Derived.Lib.AppendIntMem
/- The plain reckoning of decimals that the walks lean on: powers of ten, rounding half to even, noughts taken off, what Fit answers. -/
namespace Go.Proofs.YtamnndocbnbkiaaDoor

def p10 : Nat → Int
  | 0 => 1
  | n + 1 => p10 n * 10

theorem p10_succ (n : Nat) : p10 (n + 1) = p10 n * 10 := rfl

theorem p10_pos (n : Nat) : 1 ≤ p10 n := by
  induction n with
  | zero => decide
  | succ n ih => rw [p10_succ]; omega

theorem p10_mono {a b : Nat} (h : a ≤ b) : p10 a ≤ p10 b := by
  induction h with
  | refl => omega
  | step _ ih => rw [p10_succ]; have := p10_pos a; omega

theorem p10_bd {n : Nat} (h : n ≤ 8) : p10 n ≤ 100000000 := by
  have := p10_mono h
  have e : p10 8 = 100000000 := by decide
  omega

theorem p10_add (a b : Nat) : p10 (a + b) = p10 a * p10 b := by
  induction b with
  | zero => simp [p10]
  | succ b ih => rw [← Nat.add_assoc, p10_succ, p10_succ, ih, Int.mul_assoc]

/- n by d, rounded half to even. -/
def half (n d : Int) : Int :=
  if d < 2 * (n % d) ∨ (2 * (n % d) = d ∧ (n / d) % 2 ≠ 0) then n / d + 1 else n / d

/- noughts at the end taken off. -/
def trimM : Int → Nat → Int
  | m, 0 => m
  | m, s + 1 => if m % 10 = 0 then trimM (m / 10) s else m
def trimS : Int → Nat → Nat
  | _, 0 => 0
  | m, s + 1 => if m % 10 = 0 then trimS (m / 10) s else s + 1

/- may m be an M? -/
def okM (m : Int) : Bool := decide (-1000000000 ≤ m ∧ m ≤ 1000000000)

/- what is found from t - 1 down: M, S, the error. -/
def fitTM (m : Int) (s : Nat) : Nat → Int
  | 0 => 0
  | t + 1 => if okM (half m (p10 (s - t))) = true then trimM (half m (p10 (s - t))) t else fitTM m s t
def fitTS (m : Int) (s : Nat) : Nat → Nat
  | 0 => 0
  | t + 1 => if okM (half m (p10 (s - t))) = true then trimS (half m (p10 (s - t))) t else fitTS m s t
def fitTE (m : Int) (s : Nat) : Nat → Int
  | 0 => 3
  | t + 1 => if okM (half m (p10 (s - t))) = true then 0 else fitTE m s t

def argB (m s : Int) : Bool := decide (m < -1000000000000000000 ∨ 1000000000000000000 < m ∨ s < 0 ∨ 8 < s)

def fitM (m s : Int) : Int := if argB m s = true then 0 else fitTM m s.toNat (min s.toNat 4 + 1)
def fitS (m s : Int) : Int := if argB m s = true then 0 else (fitTS m s.toNat (min s.toNat 4 + 1) : Nat)
def fitE (m s : Int) : Int := if argB m s = true then 1 else fitTE m s.toNat (min s.toNat 4 + 1)

theorem half_bd (n d : Int) : n / d ≤ half n d ∧ half n d ≤ n / d + 1 := by
  unfold half; split <;> omega

theorem div_abs (n d B : Int) (hd : 1 ≤ d) (h0 : 0 ≤ B) (h1 : -B ≤ n) (h2 : n ≤ B) : -B ≤ n / d ∧ n / d ≤ B := by
  constructor
  · rw [Int.le_ediv_iff_mul_le (by omega)]
    have : B * 1 ≤ B * d := Int.mul_le_mul_of_nonneg_left hd h0
    rw [Int.neg_mul]; omega
  · apply Int.ediv_le_of_le_mul (by omega)
    have : B * 1 ≤ B * d := Int.mul_le_mul_of_nonneg_left hd h0
    omega

theorem half_one (n : Int) : half n 1 = n := by
  unfold half
  rw [if_neg (by omega)]; simp

theorem okM_iff (m : Int) : okM m = true ↔ (-1000000000 ≤ m ∧ m ≤ 1000000000) := by
  unfold okM; simp

/- may a decimal be? -/
def isB (m s : Int) : Bool := okM m && (decide (0 ≤ s) && (decide (s ≤ 4) && (decide (s = 0) || decide (m % 10 ≠ 0))))

theorem isB_bd {m s : Int} (h : isB m s = true) : -1000000000 ≤ m ∧ m ≤ 1000000000 ∧ 0 ≤ s ∧ s ≤ 4 := by
  unfold isB okM at h; simp at h; omega

/- M at the scale t. -/
def upM (m s t : Int) : Int := m * p10 (t - s).toNat

theorem mul_bd (m p B C : Int) (h1 : -B ≤ m) (h2 : m ≤ B) (hp : 0 ≤ p) (hC : p ≤ C) (hB : 0 ≤ B) : -(B * C) ≤ m * p ∧ m * p ≤ B * C := by
  have a := Int.mul_le_mul_of_nonneg_right h2 hp
  have b := Int.mul_le_mul_of_nonneg_right h1 hp
  have c := Int.mul_le_mul_of_nonneg_left hC hB
  rw [Int.neg_mul] at b
  omega

theorem upM_bd {m s t : Int} (h1 : -1000000000 ≤ m) (h2 : m ≤ 1000000000) (hs : t - s ≤ 8) : -100000000000000000 ≤ upM m s t ∧ upM m s t ≤ 100000000000000000 := by
  have p1 := p10_pos (t - s).toNat
  have p2 := p10_bd (n := (t - s).toNat) (by omega)
  have := mul_bd m (p10 (t - s).toNat) 1000000000 100000000 h1 h2 (by omega) p2 (by omega)
  unfold upM
  omega

/- a by b in ten-thousandths, rounded half to even. -/
def divQ (m s n t : Int) : Int := if n < 0 then half (-(m * p10 (4 + t - s).toNat)) (-n) else half (m * p10 (4 + t - s).toNat) n

/- which is less, at one scale. -/
def cmpI (x y : Int) : Int := if x < y then -1 else if y < x then 1 else 0

end Go.Proofs.YtamnndocbnbkiaaDoor

/- Small steps that all walks share. -/
namespace Go.Proofs.YtamnndocbnbkiaaDoor
open Go.RowKit

theorem ret_int {k : IntKind} {a b : Int} (h : a = b) : Ending.returned (.int k a) = .returned (.int k b) := by rw [h]
theorem hide {p : Prop} (h : p) : Hid p := h
theorem unhide {p : Prop} (h : Hid p) : p := h
theorem bcell {W w1 : World} (hb : Below W.heap.size W w1) : (∀ b o, b < W.heap.size → w1.cell? ⟨b, o, none⟩ = W.cell? ⟨b, o, none⟩) ∧ (∀ b o, b < W.heap.size → w1.frozen? ⟨b, o, none⟩ = W.frozen? ⟨b, o, none⟩) :=
  ⟨fun b o h => hb.cell (p := ⟨b, o, none⟩) h, fun b o h => hb.frozen (p := ⟨b, o, none⟩) h⟩
theorem bstep {W w1 w2 : World} (h : Below W.heap.size W w1) (k : Below w1.heap.size w1 w2) : Below W.heap.size W w2 := h.trans (k.mono h.size)
theorem below1 (w : World) (a : Obj) : Below w.heap.size w (w.alloc a) := (Below.refl _ _).alloc (Nat.le_refl _) _
theorem below2 (w : World) (a b : Obj) : Below w.heap.size w ((w.alloc a).alloc b) := (below1 w a).alloc (by simp) _
theorem below3 (w : World) (a b c : Obj) : Below w.heap.size w (((w.alloc a).alloc b).alloc c) := (below2 w a b).alloc (by simp; omega) _
theorem i64_in {n : Int} (h1 : -9223372036854775808 ≤ n) (h2 : n ≤ 9223372036854775807) : IntKind.i64.wrap n = n := by
  show (if (IntKind.i64.signed && decide (n % (2 ^ 64 : Int) ≥ (2 ^ 63 : Int))) = true then n % (2 ^ 64 : Int) - (2 ^ 64 : Int) else n % (2 ^ 64 : Int)) = n
  simp only [IntKind.signed, Bool.true_and, decide_eq_true_eq]
  split <;> omega
theorem ret_bool {a b : Bool} (h : a = b) : Ending.returned (.bool a) = .returned (.bool b) := by rw [h]

end Go.Proofs.YtamnndocbnbkiaaDoor

/- Rows of bytes: how a number is told and read, how a row is laid, and the one way to cut it off again. -/
namespace Go.Proofs.YtamnndocbnbkiaaDoor
open Go.Lib
set_option linter.unusedVariables false

def isD (c : UInt8) : Prop := 48 ≤ c.toNat ∧ c.toNat ≤ 57
def numN (a : Nat) (l : List UInt8) : Nat := l.foldl (fun a c => a * 10 + (c.toNat - 48)) a
theorem dchar (k : Nat) (h : k < 10) : (UInt8.ofNat (48 + k)).toNat = 48 + k := by rw [UInt8.toNat_ofNat']; omega
theorem dec_snoc {n : Nat} (h : ¬ n < 10) : decDigits n = decDigits (n / 10) ++ [UInt8.ofNat (48 + n % 10)] := by rw [decDigits, dif_neg h]
theorem dec_one {n : Nat} (h : n < 10) : decDigits n = [UInt8.ofNat (48 + n)] := by rw [decDigits, dif_pos h]
theorem dec_digs (n : Nat) : ∀ c ∈ decDigits n, isD c := by
  induction n using Nat.strongRecOn with
  | _ n ih =>
    by_cases h : n < 10
    · rw [dec_one h]
      intro c hc
      simp only [List.mem_singleton] at hc
      subst hc
      unfold isD; rw [dchar n h]; omega
    · rw [dec_snoc h]
      intro c hc
      rcases List.mem_append.1 hc with hc | hc
      · exact ih (n / 10) (by omega) c hc
      · simp only [List.mem_singleton] at hc
        subst hc
        unfold isD; rw [dchar _ (Nat.mod_lt _ (by omega))]; omega
theorem numN_snoc (a : Nat) (l : List UInt8) (c : UInt8) : numN a (l ++ [c]) = numN a l * 10 + (c.toNat - 48) := by unfold numN; rw [List.foldl_append]; rfl
theorem dec_num (n : Nat) : numN 0 (decDigits n) = n := by
  induction n using Nat.strongRecOn with
  | _ n ih =>
    by_cases h : n < 10
    · rw [dec_one h]
      show 0 * 10 + ((UInt8.ofNat (48 + n)).toNat - 48) = n
      rw [dchar n h]; omega
    · rw [dec_snoc h, numN_snoc, ih (n / 10) (by omega), dchar _ (Nat.mod_lt _ (by omega))]
      omega
theorem dec_ne (n : Nat) : decDigits n ≠ [] := by
  by_cases h : n < 10
  · rw [dec_one h]; simp
  · rw [dec_snoc h]; simp
theorem numN_ge (l : List UInt8) : ∀ a, a ≤ numN a l := by
  induction l with
  | nil => exact fun a => Nat.le_refl _
  | cons c r ih => exact fun a => Nat.le_trans (by omega) (ih (a * 10 + (c.toNat - 48)))
theorem parse_ok (l : List UInt8) : ∀ a, (∀ c ∈ l, isD c) → numN a l < 18446744073709551616 → parseUint10 a l = .ok (numN a l) := by
  induction l with
  | nil => exact fun a _ _ => rfl
  | cons c r ih =>
    intro a h h2
    have hc : isD c := h c (by simp)
    have h3 := numN_ge r (a * 10 + (c.toNat - 48))
    have h4 : numN a (c :: r) = numN (a * 10 + (c.toNat - 48)) r := rfl
    rw [h4] at h2 ⊢
    have hc' : 48 ≤ c.toNat ∧ c.toNat ≤ 57 := hc
    rw [parseUint10, if_pos hc', if_neg (by omega), if_neg (by omega)]
    exact ih _ (fun x hx => h x (by simp [hx])) h2
theorem mag_dec (n : Nat) (h : n < 18446744073709551616) : parseMag (decDigits n) = .ok n := by
  unfold parseMag
  rw [if_neg (dec_ne n), parse_ok _ 0 (dec_digs n) (by rw [dec_num]; exact h), dec_num]
theorem dec_head (n : Nat) : ∃ c r, decDigits n = c :: r ∧ isD c := by
  cases h : decDigits n with
  | nil => exact absurd h (dec_ne n)
  | cons c r => exact ⟨c, r, rfl, dec_digs n c (by rw [h]; simp)⟩
theorem atoi_itoa (n : Int) (h0 : -9223372036854775808 ≤ n) (h1 : n ≤ 9223372036854775807) : atoiAll (itoa n) = .ok n := by
  unfold itoa
  by_cases hn : n < 0
  · rw [if_pos hn, atoiAll_minus, mag_dec _ (by omega)]
    unfold signed
    simp only
    split
    · omega
    · congr 1; omega
  · rw [if_neg hn]
    obtain ⟨c, r, e, hc⟩ := dec_head n.toNat
    have hc' : 48 ≤ c.toNat ∧ c.toNat ≤ 57 := hc
    have hm := mag_dec n.toNat (by omega)
    rw [e] at hm ⊢
    rw [atoiAll_plain c r (by omega) (by omega), hm]
    unfold signless
    simp only
    split
    · omega
    · congr 1; omega

/- what a row of bytes is as a number: only what would be told so. -/
def numT (l : List UInt8) : Option Int := match atoiAll l with
  | .ok n => if itoa n = l then some n else none
  | _ => none
theorem numT_iff {l : List UInt8} {n : Int} : numT l = some n ↔ l = itoa n ∧ -9223372036854775808 ≤ n ∧ n ≤ 9223372036854775807 := by
  unfold numT
  constructor
  · intro h
    cases hA : atoiAll l with
    | ok m =>
      rw [hA] at h
      simp only at h
      split at h
      · rename_i hi
        injection h with h
        subst h
        have := atoiAll_bounds hA
        exact ⟨hi.symm, this.1, this.2⟩
      · cases h
    | «syntax» => rw [hA] at h; cases h
    | range => rw [hA] at h; cases h
  · rintro ⟨rfl, h0, h1⟩
    rw [atoi_itoa n h0 h1]
    simp
theorem itoa_inj {m n : Int} (h0 : -9223372036854775808 ≤ n) (h1 : n ≤ 9223372036854775807) (h2 : -9223372036854775808 ≤ m) (h3 : m ≤ 9223372036854775807) (h : itoa m = itoa n) : m = n := by
  have a := atoi_itoa n h0 h1
  rw [← h, atoi_itoa m h2 h3] at a
  injection a

/- a row, laid; rows, laid. -/
def rowT (l : List UInt8) : List UInt8 := decDigits l.length ++ (58 :: (l ++ [44]))
def tieT (ls : List (List UInt8)) : List UInt8 := (ls.map rowT).flatten
theorem itoa_nat (n : Nat) : itoa (n : Int) = decDigits n := itoa_nonneg n
def headT (b : List UInt8) : List UInt8 := b.takeWhile (fun c => c != 58)
def tailT (b : List UInt8) : List UInt8 := b.drop ((headT b).length + 1)
/- what a row begins with, and what is left behind it. -/
def cutT (b : List UInt8) : Option (List UInt8 × List UInt8) := match numT (headT b) with
  | some n => if 0 ≤ n ∧ n ≤ 9999 ∧ n < (tailT b).length ∧ (tailT b)[n.toNat]? = some 44 then some ((tailT b).take n.toNat, (tailT b).drop (n.toNat + 1)) else none
  | none => none
theorem head_split (b : List UInt8) (h : (headT b).length < b.length) : b = headT b ++ 58 :: tailT b := by
  unfold tailT headT at *
  induction b with
  | nil => simp at h
  | cons c r ih =>
    by_cases hc : c = 58
    · subst hc
      simp
    · have e : (c :: r).takeWhile (fun c => c != 58) = c :: r.takeWhile (fun c => c != 58) := by rw [List.takeWhile_cons, if_pos (by simpa using hc)]
      rw [e] at h ⊢
      simp only [List.length_cons] at h
      have := ih (by omega)
      simp only [List.length_cons, List.drop_succ_cons, List.cons_append, List.cons.injEq, true_and]
      exact this
theorem tail_nil (b : List UInt8) (h : ¬ (headT b).length < b.length) : tailT b = [] := by
  unfold tailT
  rw [List.drop_eq_nil_of_le (by omega)]
theorem head_dec (n : Nat) (r : List UInt8) : headT (decDigits n ++ 58 :: r) = decDigits n := by
  unfold headT
  have : ∀ (l : List UInt8), (∀ c ∈ l, isD c) → (l ++ 58 :: r).takeWhile (fun c => c != 58) = l := by
    intro l
    induction l with
    | nil => intro _; simp
    | cons c l ih =>
      intro h
      have hc : 48 ≤ c.toNat ∧ c.toNat ≤ 57 := h c (by simp)
      have hne : c ≠ 58 := by rintro rfl; simp at hc
      rw [List.cons_append, List.takeWhile_cons, if_pos (by simpa using hne), ih (fun x hx => h x (by simp [hx]))]
  exact this _ (dec_digs n)
theorem tail_dec (n : Nat) (r : List UInt8) : tailT (decDigits n ++ 58 :: r) = r := by
  unfold tailT
  rw [head_dec, List.drop_append]
  simp
theorem cut_iff {b p r : List UInt8} : cutT b = some (p, r) ↔ b = rowT p ++ r ∧ p.length ≤ 9999 := by
  constructor
  · intro h
    unfold cutT at h
    cases hn : numT (headT b) with
    | none => rw [hn] at h; cases h
    | some n =>
      rw [hn] at h
      simp only at h
      split at h
      · rename_i hc
        obtain ⟨c0, c1, c2, c3⟩ := hc
        injection h with h
        injection h with hp hr
        obtain ⟨k, rfl⟩ : ∃ k : Nat, n = k := ⟨n.toNat, by omega⟩
        simp only [Int.toNat_natCast] at c3 hp hr
        obtain ⟨e1, -, -⟩ := numT_iff.1 hn
        rw [itoa_nat] at e1
        have hlt : (headT b).length < b.length := by
          apply Classical.byContradiction
          intro hh
          rw [tail_nil b hh] at c2
          simp at c2; omega
        have hs := head_split b hlt
        have hk : k < (tailT b).length := by omega
        have hpl : p.length = k := by rw [← hp, List.length_take]; omega
        refine ⟨?_, by omega⟩
        have ht : tailT b = p ++ 44 :: r := by
          rw [← hp, ← hr]
          have h44 : (tailT b)[k] = 44 := by rw [List.getElem?_eq_getElem hk] at c3; exact Option.some.inj c3
          rw [← h44, List.getElem_cons_drop]
          exact (List.take_append_drop _ _).symm
        unfold rowT
        rw [hpl, ← e1]
        refine hs.trans ?_
        rw [ht]
        simp
      · cases h
  · rintro ⟨rfl, h⟩
    have e : rowT p ++ r = decDigits p.length ++ 58 :: (p ++ 44 :: r) := by unfold rowT; simp
    unfold cutT
    rw [e, head_dec, tail_dec, numT_iff.2 ⟨(itoa_nat p.length).symm, by omega, by omega⟩]
    simp only [Int.toNat_natCast]
    rw [if_pos ⟨by omega, by omega, by simp; omega, by simp⟩]
    simp
theorem cut_of {b : List UInt8} {o : Option (List UInt8 × List UInt8)} (h : ∀ p r, o = some (p, r) ↔ b = rowT p ++ r ∧ p.length ≤ 9999) : cutT b = o := by
  cases hc : cutT b with
  | none =>
    cases o with
    | none => rfl
    | some x => rw [cut_iff.2 ((h x.1 x.2).1 rfl)] at hc; cases hc
  | some x => exact ((h x.1 x.2).2 (cut_iff.1 hc)).symm
theorem row_len (p : List UInt8) : p.length + 3 ≤ (rowT p).length := by
  unfold rowT
  obtain ⟨c, r, e, -⟩ := dec_head p.length
  rw [e]
  simp only [List.length_append, List.length_cons, List.length_nil]
  omega
theorem dec_len4 (n : Nat) (h : n ≤ 9999) : (decDigits n).length ≤ 4 := by
  rw [decDigits_length]
  by_cases h1 : n < 10
  · rw [nDigits_small h1]; omega
  · rw [nDigits_big h1]
    by_cases h2 : n / 10 < 10
    · rw [nDigits_small h2]; omega
    · rw [nDigits_big h2]
      by_cases h3 : n / 10 / 10 < 10
      · rw [nDigits_small h3]; omega
      · rw [nDigits_big h3, nDigits_small (by omega)]
        omega
theorem cut_less {b p r : List UInt8} (h : cutT b = some (p, r)) : r.length < b.length ∧ p.length < b.length := by
  obtain ⟨rfl, -⟩ := cut_iff.1 h
  have := row_len p
  rw [List.length_append]
  omega
/- a row that is cut short is none. -/
theorem cut_short {p : List UInt8} (k : Nat) (h : k < (rowT p).length) : cutT ((rowT p).take k) = none := by
  cases hc : cutT ((rowT p).take k) with
  | none => rfl
  | some x =>
    obtain ⟨e, hl⟩ := cut_iff.1 hc
    exfalso
    have e2 : rowT p = rowT x.1 ++ (x.2 ++ (rowT p).drop k) := by
      rw [← List.append_assoc, ← e, List.take_append_drop]
    have hx : decDigits p.length = decDigits x.1.length ∧ tailT (rowT p) = tailT (rowT x.1 ++ (x.2 ++ (rowT p).drop k)) := by
      refine ⟨?_, by rw [← e2]⟩
      have h1 : headT (rowT p) = decDigits p.length := head_dec _ _
      have h2 : headT (rowT x.1 ++ (x.2 ++ (rowT p).drop k)) = decDigits x.1.length := by unfold rowT; rw [List.append_assoc]; exact head_dec _ _
      rw [← h1, ← h2, ← e2]
    have hl1 : p.length = x.1.length := by
      have := congrArg (numN 0) hx.1
      rwa [dec_num, dec_num] at this
    have h3 : (rowT p).length = (rowT x.1).length := by unfold rowT; simp [hl1]
    have h4 := congrArg List.length e
    rw [List.length_take, List.length_append] at h4
    omega
end Go.Proofs.YtamnndocbnbkiaaDoor

/- Rows of bytes, of numbers, of truths, rows of rows in memory; rows of the call's own, and what is appended to them. -/
namespace Go.Proofs.YtamnndocbnbkiaaDoor
open Go.ChangeShapes Go.WideShapes Go.RowKit
set_option linter.unusedVariables false

def encB (c : UInt8) : Value := .int .u8 (c.toNat : Int)
/- a row lies in a block of which Q holds. -/
def Row {α : Type} (enc : α → Value) (d : α) (Q : Nat → Prop) (w : World) (v : Value) (xs : List α) : Prop :=
  ∃ a cap, v = .slice a xs.length cap ∧ xs.length ≤ cap ∧ cap ≤ maxLen ∧ (a = none → cap = 0) ∧ ∀ i, i < xs.length → ∃ bl o, a = some ⟨bl, o, none⟩ ∧ Q bl ∧ bl < w.heap.size ∧ w.cell? ⟨bl, o + i, none⟩ = some (enc (xs.getD i d))
abbrev RowB := Row encB (0 : UInt8)
abbrev RowI := Row (Value.int .i64) (0 : Int)
abbrev RowO := Row Value.bool false
/- a row of rows of bytes. -/
def RowsB (Q : Nat → Prop) (w : World) (a : Option Addr) (ls : List (List UInt8)) : Prop :=
  ∀ i, i < ls.length → ∃ bl o v, a = some ⟨bl, o, none⟩ ∧ Q bl ∧ bl < w.heap.size ∧ w.cell? ⟨bl, o + i, none⟩ = some v ∧ RowB Q w v (ls.getD i [])
section
variable {α : Type} {enc : α → Value} {d : α}
theorem Row.keep {Q Q' : Nat → Prop} {w w' : World} {v : Value} {xs : List α} (hs : w.heap.size ≤ w'.heap.size) (hh : ∀ bl o, bl < w.heap.size → Q bl → w'.cell? ⟨bl, o, none⟩ = w.cell? ⟨bl, o, none⟩) (hq : ∀ g, g < w.heap.size → Q g → Q' g) (h : Row enc d Q w v xs) : Row enc d Q' w' v xs := by
  obtain ⟨a, cap, rfl, hl, hm, hn, hc⟩ := h
  refine ⟨a, cap, rfl, hl, hm, hn, fun i hi => ?_⟩
  obtain ⟨bl, o, ha, hb, hlt, hx⟩ := hc i hi
  exact ⟨bl, o, ha, hq _ hlt hb, Nat.lt_of_lt_of_le hlt hs, (hh bl _ hlt hb).trans hx⟩
theorem Row.below {Q : Nat → Prop} {w w' : World} {v : Value} {xs : List α} (h : Row enc d Q w v xs) (b : Below w.heap.size w w') : Row enc d Q w' v xs := h.keep b.size (fun bl o hl _ => (bcell b).1 bl o hl) (fun _ _ h => h)
theorem Row.under {B : Nat} {w w' : World} {v : Value} {xs : List α} (h : Row enc d (fun g => g < B) w v xs) (b : Below B w w') : Row enc d (fun g => g < B) w' v xs := h.keep b.size (fun bl o hl hq => b.cell (p := ⟨bl, o, none⟩) hq) (fun _ _ h => h)
theorem Row.weak {Q Q' : Nat → Prop} {w : World} {v : Value} {xs : List α} (h : Row enc d Q w v xs) (hq : ∀ g, g < w.heap.size → Q g → Q' g) : Row enc d Q' w v xs := h.keep (Nat.le_refl _) (fun _ _ _ _ => rfl) hq
theorem Row.form {Q : Nat → Prop} {w : World} {v : Value} {xs : List α} (h : Row enc d Q w v xs) : ∃ a cap, v = .slice a xs.length cap ∧ xs.length ≤ cap ∧ cap ≤ maxLen ∧ (a = none → cap = 0) := by
  obtain ⟨a, cap, h1, h2, h3, h4, -⟩ := h
  exact ⟨a, cap, h1, h2, h3, h4⟩
theorem Row.at {Q : Nat → Prop} {w : World} {a : Option Addr} {n cap : Nat} {xs : List α} (h : Row enc d Q w (.slice a n cap) xs) : n = xs.length ∧ ∀ i, i < n → ∃ bl o, a = some ⟨bl, o, none⟩ ∧ Q bl ∧ bl < w.heap.size ∧ w.cell? ⟨bl, o + i, none⟩ = some (enc (xs.getD i d)) := by
  obtain ⟨a', cap', hv, hl, hm, hn, hc⟩ := h
  cases hv
  exact ⟨rfl, hc⟩
end
theorem RowsB.keep {Q Q' : Nat → Prop} {w w' : World} {a : Option Addr} {ls : List (List UInt8)} (hs : w.heap.size ≤ w'.heap.size) (hh : ∀ bl o, bl < w.heap.size → Q bl → w'.cell? ⟨bl, o, none⟩ = w.cell? ⟨bl, o, none⟩) (hq : ∀ g, g < w.heap.size → Q g → Q' g) (h : RowsB Q w a ls) : RowsB Q' w' a ls := by
  intro i hi
  obtain ⟨bl, o, v, ha, hb, hlt, h1, h2⟩ := h i hi
  exact ⟨bl, o, v, ha, hq _ hlt hb, Nat.lt_of_lt_of_le hlt hs, (hh _ _ hlt hb).trans h1, h2.keep hs hh hq⟩
theorem RowsB.below {Q : Nat → Prop} {w w' : World} {a : Option Addr} {ls : List (List UInt8)} (h : RowsB Q w a ls) (b : Below w.heap.size w w') : RowsB Q w' a ls := h.keep b.size (fun bl o hl _ => (bcell b).1 bl o hl) (fun _ _ h => h)
theorem RowsB.under {B : Nat} {w w' : World} {a : Option Addr} {ls : List (List UInt8)} (h : RowsB (fun g => g < B) w a ls) (b : Below B w w') : RowsB (fun g => g < B) w' a ls := h.keep b.size (fun bl o hl hq => b.cell (p := ⟨bl, o, none⟩) hq) (fun _ _ h => h)

/- a row of bytes of the call's own. -/
def Own (B : Nat) (w : World) (v : Value) (l : List UInt8) : Prop := w.ownsRow B 5 1 v l.length (Lib.byteCells l)
theorem byteCells_enc (l : List UInt8) : Lib.byteCells l = l.map encB := rfl
theorem byteCells_app (l s : List UInt8) : Lib.byteCells (l ++ s) = Lib.byteCells l ++ Lib.byteCells s := by simp [Lib.byteCells]
theorem byteCells_len (l : List UInt8) : (Lib.byteCells l).length = l.length := by simp [Lib.byteCells]
theorem own_below {base : Nat} {e : TypeId} {size n : Nat} {v : Value} {xs : List Value} {w w' : World} (h : w.ownsRow base e size v n xs) (b : Below w.heap.size w w') : w'.ownsRow base e size v n xs := by
  refine ⟨h.1, ?_⟩
  rcases h.2 with h0 | ⟨g, cap, cur, hv, hB, hg, hr⟩
  · exact Or.inl h0
  · exact Or.inr ⟨g, cap, cur, hv, hB, (b.block g (Array.getElem?_eq_some_iff.1 hg).1).trans hg, hr⟩
theorem own_weak {B B' n : Nat} {e : TypeId} {v : Value} {xs : List Value} {w : World} (h : w.ownsRow B e 1 v n xs) (hb : B' ≤ B) : w.ownsRow B' e 1 v n xs := by
  refine ⟨h.1, ?_⟩
  rcases h.2 with h0 | ⟨g', cap, cur, hv, hB, hr⟩
  · exact .inl h0
  · exact .inr ⟨g', cap, cur, hv, Nat.le_trans hb hB, hr⟩
theorem own_ge {B n : Nat} {e : TypeId} {v : Value} {xs : List Value} {w : World} (h : w.ownsRow B e 1 v n xs) : ∀ k, v.ownBlock = some k → B ≤ k := by
  intro k hk
  rcases h.2 with ⟨rfl, _⟩ | ⟨g', cap, cur, rfl, hB, hh, hr⟩
  · cases hk
  · simp only [Value.ownBlock, Option.some.injEq] at hk
    subst hk
    exact hB
theorem own_nil (B : Nat) (w : World) : Own B w (.slice none 0 0) [] := ⟨rfl, .inl ⟨rfl, rfl⟩⟩
/- a row of the call's own, as a row. -/
theorem Own.row {B : Nat} {w : World} {v : Value} {l : List UInt8} (h : Own B w v l) : RowB (fun g => B ≤ g ∧ v.ownBlock = some g) w v l := by
  by_cases hv : v = .slice none 0 0
  · subst hv
    rcases h.2 with ⟨_, h0⟩ | ⟨g, cap, cur, hv, _⟩
    · obtain rfl : l = [] := List.eq_nil_of_length_eq_zero h0
      exact ⟨none, 0, rfl, Nat.le_refl _, Nat.zero_le _, fun _ => rfl, fun i hi => absurd hi (Nat.not_lt_zero _)⟩
    · cases hv
  · obtain ⟨g, cap, rfl, hb, hg, hn, hm, hl, hH⟩ := Lib.holds_of_ownsRow (enc := encB) (zs := l) h hv
    refine ⟨some ⟨g, 0, none⟩, cap, rfl, by omega, hm, (fun e => by cases e), fun i hi => ⟨g, 0, rfl, ⟨hb, rfl⟩, hg, ?_⟩⟩
    have := (hH i (by simpa using hi)).1
    rw [List.getD_eq_getElem?_getD, List.getElem?_eq_getElem hi]
    simpa [getElem!_pos, hi] using this
theorem infoByte : (Tryd.prog.info? 5).map (fun i => (i.zero, i.size, i.bytes)) = some (some (.int .u8 0), 1, 1) := by kernel_rfl

/- what a row is as a text. -/
theorem conv_row {Q : Nat → Prop} {w : World} {v : Value} {l : List UInt8} (h : RowB Q w v l) : (convert 22 9 v).run Tryd.prog w = .ok (.string ⟨l.toArray⟩) w := by
  obtain ⟨a, cap, rfl, hl, hm, hn, hc⟩ := h
  by_cases h0 : l.length = 0
  · obtain rfl : l = [] := List.eq_nil_of_length_eq_zero h0
    rw [run_convert_bytes_string w _ _ _ a _ cap Tryd.underlying22 Tryd.underlying5 Tryd.underlying9]
    cases a <;> rfl
  · obtain ⟨bl, o, rfl, -, -, -⟩ := hc 0 (by omega)
    refine run_convert_bytes_back w _ _ _ ⟨bl, o, none⟩ cap l Tryd.underlying22 Tryd.underlying5 Tryd.underlying9 ?_
    intro j hj
    obtain ⟨bl', o', e, -, -, hcell⟩ := hc j hj
    cases e
    rw [add_plain, hcell, List.getD_eq_getElem?_getD, List.getElem?_eq_getElem hj]
    rfl

/- append of one byte. -/
theorem wpList_b {w : World} {ops : Array Oper} {rest : List Oper} {o : Oper} {ac : Act} {P : Exit → Act → World → Prop} (hgd : o.guard = none) (s x : Operand)
    (ho : o.op = .call { callee := .builtin .append, args := #[s, x], argTypes := #[22, 22] }) (B : Nat) (v : Value) (l : List UInt8) (hs : ac.eval s = v) (own : Own B w v l)
    (g : Nat) (c : UInt8) (hx : ac.eval x = .slice (some ⟨g, 0, none⟩) 1 1) (hc : w.cell? ⟨g, 0, none⟩ = some (encB c)) (hn : l.length ≤ 1099511627776) (hB : B ≤ w.heap.size)
    (h : ∀ v' w', Own B w' v' (l ++ [c]) → v' ≠ .slice none 0 0 → w.grownBy w' v.ownBlock → wpList Tryd.prog ops P rest (ac.put o.dst v') w') : wpList Tryd.prog ops P (o :: rest) ac w := by
  obtain ⟨i, hi, hz, hz1, hz2⟩ := info_parts infoByte
  refine wpList_append_own w hgd s x 22 ho B 5 i _ 1 1 Tryd.underlying22 hi hz hz1 hz2 rfl (by decide) v l.length _ hs own ⟨g, 0, none⟩ 1 1 [encB c] hx rfl ?_ ?_ (by unfold maxLen; omega) (by omega) hB ?_
  · intro j u hj
    match j, hj with
    | 0, hj => simp at hj; subst hj; simpa [Addr.add] using hc
  · intro u hu
    simp at hu
    subst hu
    rfl
  · intro v' w' h1 h2 h3
    refine h v' w' ?_ (fun e => by have := (h3.1 e).2; omega) h2
    unfold Own
    rw [byteCells_app, byteCells_enc [c], List.length_append]
    exact h1
/- append of a row that lies elsewhere. -/
theorem wpList_br {w : World} {ops : Array Oper} {rest : List Oper} {o : Oper} {ac : Act} {P : Exit → Act → World → Prop} (hgd : o.guard = none) (s x : Operand)
    (ho : o.op = .call { callee := .builtin .append, args := #[s, x], argTypes := #[22, 22] }) (B : Nat) (v : Value) (l : List UInt8) (hs : ac.eval s = v) (own : Own B w v l)
    (vr : Value) (r : List UInt8) (Q : Nat → Prop) (hx : ac.eval x = vr) (hr : RowB Q w vr r) (hn : l.length ≤ 1099511627776) (hn2 : r.length ≤ 1099511627776) (hB : B ≤ w.heap.size)
    (h : ∀ v' w', Own B w' v' (l ++ r) → (v' = .slice none 0 0 → v = .slice none 0 0) → w.grownBy w' v.ownBlock → wpList Tryd.prog ops P rest (ac.put o.dst v') w') : wpList Tryd.prog ops P (o :: rest) ac w := by
  obtain ⟨i, hi, hz, hz1, hz2⟩ := info_parts infoByte
  obtain ⟨a, cap, rfl, hl, hm, hnil, hc⟩ := hr
  cases a with
  | none =>
    obtain rfl := hnil rfl
    obtain rfl : r = [] := List.eq_nil_of_length_eq_zero (by omega)
    exact wpList_append_own_none hgd s x 22 ho B 5 i 1 Tryd.underlying22 hi v l.length _ hs own hx (h v w (by simpa using own) id (World.grownBy.refl _ _))
  | some ad =>
    refine wpList_append_own w hgd s x 22 ho B 5 i _ 1 1 Tryd.underlying22 hi hz hz1 hz2 rfl (by decide) v l.length _ hs own ad r.length cap (r.map encB) hx (by simp) ?_ ?_ (by unfold maxLen; omega) (by omega) hB ?_
    · intro j u hu
      have hj : j < r.length := by
        have := (List.getElem?_eq_some_iff.1 hu).1
        simpa using this
      obtain ⟨bl', o', e, -, -, hcell⟩ := hc j hj
      cases e
      rw [add_plain, hcell, List.getD_eq_getElem?_getD, List.getElem?_eq_getElem hj]
      rw [List.getElem?_map, List.getElem?_eq_getElem hj] at hu
      exact hu
    · intro u hu
      simp only [List.mem_map] at hu
      obtain ⟨y, _, rfl⟩ := hu
      rfl
    · intro v' w' h1 h2 h3
      refine h v' w' ?_ (fun e => (h3.1 e).1) h2
      unfold Own
      rw [byteCells_app, byteCells_enc r, List.length_append]
      exact h1
theorem below_grown {B : Nat} {a w w' : World} {row : Option Nat} (h : Below B a w) (hg : w.grownBy w' row) (hB : B ≤ w.heap.size) (hr : ∀ k, row = some k → B ≤ k) : Below B a w' := h.grown hg hB hr
theorem kcx {x y : World} (k : Below x.heap.size x y) {b o : Nat} {v : Value} (hc : x.cell? ⟨b, o, none⟩ = some v) : y.cell? ⟨b, o, none⟩ = some v := ((bcell k).1 b o (World.block_lt_of_cell? _ _ hc)).trans hc
/- bytes.Clone of a row. -/
theorem clone_any (Q : Nat → Prop) (v : Value) (l : List UInt8) (w : World) (h : RowB Q w v l) (hb : l.length ≤ 1099511627776) :
    Calls Tryd.prog 23 #[v] w fun e w' => ∃ v', e = .returned v' ∧ Own w.heap.size w' v' l ∧ Below w.heap.size w w' := by
  obtain ⟨a, cap, rfl, hl, hm, hnil, hc⟩ := h
  cases a with
  | none =>
    obtain rfl := hnil rfl
    obtain rfl : l = [] := List.eq_nil_of_length_eq_zero (by omega)
    refine (Tryd.bytes_Clone_nil _ _ w).mono ?_
    rintro e w' ⟨rfl, rfl⟩
    exact ⟨_, rfl, own_nil _ _, Below.refl _ _⟩
  | some ad =>
    refine (Tryd.bytes_Clone_at ad l.length cap (l.map fun c => (c.toNat : Int)) w (by simp) (by omega) ?_).mono ?_
    · intro i hi
      obtain ⟨bl', o', e, -, -, hcell⟩ := hc i hi
      cases e
      rw [add_plain, hcell, List.getD_eq_getElem?_getD, List.getD_eq_getElem?_getD, List.getElem?_map, List.getElem?_eq_getElem hi]
      rfl
    · rintro e w' ⟨v', rfl, ho, -, hb⟩
      refine ⟨v', rfl, ?_, hb⟩
      unfold Own
      have : Lib.byteCells l = (l.map fun c => (c.toNat : Int)).map (Value.int .u8) := by simp [Lib.byteCells]
      rw [this]; exact ho
end Go.Proofs.YtamnndocbnbkiaaDoor

/- The contracts of dec's small functions: power, holds. -/
namespace Go.Proofs.YtamnndocbnbkiaaDoor
open Go.RowKit

end Go.Proofs.YtamnndocbnbkiaaDoor

/- The contracts of dec's small functions: floor, halfEven (power and holds: Pow). -/
namespace Go.Proofs.YtamnndocbnbkiaaDoor
open Go.RowKit

theorem tdiv_floor (n d : Int) (hd : 1 ≤ d) : (n.tmod d < 0 → n.tdiv d - 1 = n / d) ∧ (¬ n.tmod d < 0 → n.tdiv d = n / d) := by
  have hm := Int.tmod_lt_of_pos n (b := d) (by omega)
  have hm2 := Int.lt_tmod_of_pos n (b := d) (by omega)
  have he := Int.mul_tdiv_add_tmod n d
  have h1 := Int.emod_nonneg n (b := d) (by omega)
  have h2 := Int.emod_lt_of_pos n (b := d) (by omega)
  have h3 := Int.mul_ediv_add_emod n d
  constructor
  · intro h
    apply Eq.symm
    rw [Int.ediv_eq_iff_of_pos (by omega)]
    have : (n.tdiv d - 1) * d = d * n.tdiv d - d := by rw [Int.sub_mul, Int.mul_comm]; omega
    have h' : (n.tdiv d - 1 + 1) * d = d * n.tdiv d := by rw [Int.sub_add_cancel, Int.mul_comm]
    constructor <;> omega
  · intro h
    apply Eq.symm
    rw [Int.ediv_eq_iff_of_pos (by omega)]
    have : (n.tdiv d) * d = d * n.tdiv d := Int.mul_comm _ _
    have h' : (n.tdiv d + 1) * d = d * n.tdiv d + d := by rw [Int.add_mul, Int.mul_comm]; omega
    constructor <;> omega

theorem tdiv_bd (n d B : Int) (hd : 1 ≤ d) (h0 : 0 ≤ B) (h1 : -B ≤ n) (h2 : n ≤ B) : -B ≤ n.tdiv d ∧ n.tdiv d ≤ B + 1 := by
  have ⟨a, b⟩ := tdiv_floor n d hd
  have := div_abs n d B hd h0 h1 h2
  by_cases h : n.tmod d < 0
  · have := a h; omega
  · have := b h; omega

theorem tmod2 (q : Int) : (q.tmod 2 != 0) = decide (q % 2 ≠ 0) := by
  have : (q.tmod 2 = 0) ↔ (q % 2 = 0) := by
    rw [← Int.dvd_iff_tmod_eq_zero, ← Int.dvd_iff_emod_eq_zero]
  by_cases h0 : q % 2 = 0
  · simp [h0, this.2 h0]
  · have h1 := mt this.1 h0
    simp [h0, h1]

end Go.Proofs.YtamnndocbnbkiaaDoor

/- strconv.Itoa of a number that is not below nought, and the table that it reads, kept behind calls. -/
namespace Go.Proofs.YtamnndocbnbkiaaDoor
open Go.RowKit Go.Sort

/- the table of powers of ten lies as the program's text lays it. -/
def Tab (w : World) : Prop := Lib.TabIs Tryd.prog w "internal/strconv.uint64pow10" .u64 Lib.pow10Tab

theorem tab_below {w w' : World} (h : Tab w) (hb : Below w.heap.size w w') : Tab w' := by
  have hg : Tryd.prog.globalNamed "internal/strconv.uint64pow10" = some 1 := by kernel_rfl
  unfold Tab Lib.TabIs at h ⊢
  refine var?_below hb hg ?_ h
  refine Nat.lt_of_not_ge fun h' => ?_
  unfold World.var? at h
  rw [hg] at h
  simp only [Option.bind_some] at h
  rw [Array.getElem?_eq_none h'] at h
  cases h

theorem below_grow (w : World) (k : Nat) (os : Array Obj) : Below w.heap.size w (grow (w.drewN k) os) :=
  ⟨rfl, rfl, rfl, by show w.heap.size ≤ (w.heap ++ os).size; simp, fun j hj => by show (w.heap ++ os)[j]? = w.heap[j]?; rw [Array.getElem?_append_left hj]⟩

theorem itoa_any (n : Int) (w : World) (h0 : 0 ≤ n) (h1 : n ≤ 1000000000000000000) (ht : Tab w) :
    Calls Tryd.prog 34 #[.int .i64 n] w fun e w' => e = .returned (.string ⟨(Lib.decDigits n.toNat).toArray⟩) ∧ Below w.heap.size w w' := by
  refine (Tryd.strconv_Itoa n (by omega) (by omega) w ht).mono ?_
  rintro e w' ⟨rfl, k, os, rfl⟩
  have e : Lib.itoa n = Lib.decDigits n.toNat := by unfold Lib.itoa; rw [if_neg (by omega)]
  rw [e]
  exact ⟨rfl, below_grow w k os⟩

end Go.Proofs.YtamnndocbnbkiaaDoor

/- knot's lay: a row laid behind what is there. -/
namespace Go.Proofs.YtamnndocbnbkiaaDoor
open Go.RowKit Go.Sort
set_option linter.unusedVariables false
set_option linter.unusedSimpArgs false

def TabB (B : Nat) (w : World) : Prop := Lib.TabBelow Tryd.prog B w "internal/strconv.uint64pow10" .u64 Lib.pow10Tab
theorem dec_len20 (n : Nat) (h : n ≤ 9223372036854775807) : (Lib.decDigits n).length ≤ 21 := by
  have := Lib.itoa_length_le n (by omega) (by omega)
  rwa [itoa_nat] at this
set_option maxHeartbeats 1000000 in
theorem lay_any (B : Nat) (v vr : Value) (l r : List UInt8) (w : World) (own : Own B w v l) (hr : RowB (fun g => g < B) w vr r) (hn : l.length + r.length ≤ 274877906944) (hB : B ≤ w.heap.size) (ht : TabB B w) :
    Calls Tryd.prog 24 #[v, vr] w fun e w' => ∃ v', e = .returned v' ∧ Own B w' v' (l ++ rowT r) ∧ v' ≠ .slice none 0 0 ∧ Below B w w' := by
  obtain ⟨a, cap, rfl, hl, hm, hnil⟩ := hr.form
  have hd := dec_len20 r.length (by omega)
  have C1 := hide (Tryd.strconv_AppendInt_10 B l.length (r.length : Int) (by omega) (by omega) v _ w own hB (by omega) ht)
  rw [itoa_nat] at C1
  have HR := hide hr
  have AP : Hid (l ++ Lib.decDigits r.length ++ [58] ++ r ++ [44] = l ++ rowT r) := hide (by unfold rowT; simp)
  generalize Lib.decDigits r.length = D at *
  clear own ht hr
  go_enter Tryd.func24, Tryd.ntmps24
  go_wp2_with fail
  refine (unhide C1).mono ?_
  rintro e w1 ⟨v1, rfl, own1, b1, -⟩
  clear C1
  have own1' : Own B w1 v1 (l ++ D) := by unfold Own; rw [List.length_append, byteCells_app]; exact own1
  clear own1
  have n1 : (l ++ D).length ≤ 274877906944 + 21 := by rw [List.length_append]; omega
  generalize l ++ D = L1 at *
  have hB1 : B ≤ w1.heap.size := Nat.le_trans hB b1.size
  have k1 := below1 w1 (Obj.cells #[.int .u8 58] 5)
  have own2 : Own B (w1.alloc (Obj.cells #[.int .u8 58] 5)) v1 L1 := own_below own1' k1
  have hc2 : (w1.alloc (Obj.cells #[.int .u8 58] 5)).cell? ⟨w1.heap.size, 0, none⟩ = some (encB 58) := by unfold encB; go_simp
  have hz2 : B ≤ (w1.alloc (Obj.cells #[.int .u8 58] 5)).heap.size := by simp; omega
  have bb1 : Below B w (w1.alloc (Obj.cells #[.int .u8 58] 5)) := b1.trans (k1.mono hB1)
  go_wp2_with (at_builtin; go_must (refine wpList_b rfl _ _ rfl B v1 L1 rfl own2 w1.heap.size 58 rfl hc2 (by omega) hz2 ?_))
  intro v2 w2 own3 hv2 gr2
  have n2 : (L1 ++ [58]).length ≤ 274877906944 + 22 := by rw [List.length_append]; simp; omega
  generalize L1 ++ [58] = L2 at *
  have b2 := below_grown bb1 gr2 hz2 (own_ge own2)
  clear own1' own2 hc2 bb1 gr2 k1 b1
  have hB2 : B ≤ w2.heap.size := Nat.le_trans hB b2.size
  go_wp2_with (at_builtin; go_must (refine wpList_br rfl _ _ rfl B v2 L2 rfl own3 (.slice a r.length cap) r (fun g => g < B) rfl ((unhide HR).under b2) (by omega) (by omega) hB2 ?_))
  intro v3 w3 own4 hv3 gr3
  have n3 : (L2 ++ r).length ≤ 1099511627776 := by rw [List.length_append]; omega
  generalize L2 ++ r = L3 at *
  have b3 := below_grown b2 gr3 hB2 (own_ge own3)
  clear own3 gr3 b2 hB2 hz2
  have hB3 : B ≤ w3.heap.size := Nat.le_trans hB b3.size
  have k3 := below1 w3 (Obj.cells #[.int .u8 44] 5)
  have own5 : Own B (w3.alloc (Obj.cells #[.int .u8 44] 5)) v3 L3 := own_below own4 k3
  have hc3 : (w3.alloc (Obj.cells #[.int .u8 44] 5)).cell? ⟨w3.heap.size, 0, none⟩ = some (encB 44) := by unfold encB; go_simp
  have hz3 : B ≤ (w3.alloc (Obj.cells #[.int .u8 44] 5)).heap.size := by simp; omega
  have bb3 : Below B w (w3.alloc (Obj.cells #[.int .u8 44] 5)) := b3.trans (k3.mono hB3)
  go_wp2_with (at_builtin; go_must (refine wpList_b rfl _ _ rfl B v3 L3 rfl own5 w3.heap.size 44 rfl hc3 (by omega) hz3 ?_))
  intro v4 w4 own6 hv4 gr4
  have b4 := below_grown bb3 gr4 hz3 (own_ge own5)
  go_wp2_with fail
  go_ret
  exact ⟨v4, rfl, by rw [← unhide AP]; exact own6, hv4, b4⟩
end Go.Proofs.YtamnndocbnbkiaaDoor

/- knot's Tie and Num: rows laid one behind the other. -/
namespace Go.Proofs.YtamnndocbnbkiaaDoor
open Go.RowKit Go.Sort
set_option linter.unusedVariables false
set_option linter.unusedSimpArgs false

theorem tie_take (ls : List (List UInt8)) (j : Nat) (h : j < ls.length) : tieT (ls.take (j + 1)) = tieT (ls.take j) ++ rowT (ls.getD j []) := by
  unfold tieT
  rw [List.take_add_one, List.map_append, List.flatten_append, List.getElem?_eq_getElem h, List.getD_eq_getElem?_getD, List.getElem?_eq_getElem h]
  simp
theorem tie_le (ls : List (List UInt8)) (j : Nat) : (tieT (ls.take j)).length ≤ (tieT ls).length := by
  have h : tieT ls = tieT (ls.take j) ++ tieT (ls.drop j) := by
    have := congrArg tieT (List.take_append_drop j ls)
    rw [← this]
    unfold tieT
    rw [List.map_append, List.flatten_append]
  rw [h, List.length_append]
  omega
theorem tie_get (ls : List (List UInt8)) (j : Nat) (h : j < ls.length) : (tieT (ls.take j)).length + (ls.getD j []).length ≤ (tieT ls).length := by
  have h1 := tie_le ls (j + 1)
  rw [tie_take ls j h, List.length_append] at h1
  have := row_len (ls.getD j [])
  omega
theorem TabB.on {B : Nat} {w w1 : World} (h : TabB B w) (hb : Below B w w1) : TabB B w1 := Lib.TabBelow.on h hb
theorem tabB_of {w : World} (h : Tab w) : TabB w.heap.size w := Lib.tabBelow_of_tabIs h

set_option maxHeartbeats 1000000 in
theorem tie_any (Q : Nat → Prop) (vb : Value) (b : List UInt8) (a : Option Addr) (cap : Nat) (ls : List (List UInt8)) (w : World) (hb : RowB Q w vb b) (hl : RowsB Q w a ls) (hn : b.length + (tieT ls).length ≤ 274877906944) (hln : ls.length ≤ 274877906944) (ht : Tab w) :
    Calls Tryd.prog 10 #[vb, .slice a ls.length cap] w fun e w' => ∃ v', e = .returned v' ∧ Own w.heap.size w' v' (b ++ tieT ls) ∧ Below w.heap.size w w' := by
  have C1 := hide (clone_any Q vb b w hb (by omega))
  have HL := hide hl
  have HT := hide (tabB_of ht)
  clear hb hl ht
  go_enter Tryd.func10, Tryd.ntmps10
  go_wp2_with fail
  refine (unhide C1).mono ?_
  rintro e w1 ⟨v1, rfl, own1, b1⟩
  clear C1
  have h0 : Own w.heap.size w1 v1 (b ++ tieT (ls.take 0)) := by unfold tieT; simpa using own1
  have HLT := hide (tie_get ls)
  have HLS := hide (tie_take ls)
  clear own1
  go_wp2_with fail
  go_loopw [5, 12] (fun u i wr => ∃ (j : Nat) (v : Value), j ≤ ls.length ∧ v = u ∧ i = .int .i64 j ∧ Below w.heap.size w wr ∧ Own w.heap.size wr v (b ++ tieT (ls.take j))) (fun _ i _ => ls.length - (intOf i).toNat)
  case atStart => exact ⟨0, v1, Nat.zero_le _, rfl, rfl, b1, h0⟩
  case round =>
    obtain ⟨j, v, hj, rfl, rfl, bel, own⟩ := hrel
    clear h0 b1
    by_cases hlt : j < ls.length
    · have hz : w.heap.size ≤ wr.heap.size := bel.size
      have h1 := unhide HLT j hlt
      obtain ⟨bl, o, vr, rfl, hq, hbl, hc, hr⟩ := (unhide HL).below bel j hlt
      have hr' : RowB (fun g => g < w.heap.size) wr vr (ls.getD j []) := by
        obtain ⟨bl', o', vr', e, hq', hbl', hc', hr'⟩ := unhide HL j hlt
        cases e
        have e2 := (kcx bel hc').symm.trans hc
        cases e2
        exact (hr'.weak (fun g hg _ => hg)).under bel
      have HC := hide (lay_any w.heap.size v vr (b ++ tieT (ls.take j)) (ls.getD j []) wr own hr' (by rw [List.length_append]; omega) hz ((unhide HT).on bel))
      rw [List.append_assoc, ← unhide HLS j hlt] at HC
      clear hr hr' own h1
      go_wp2_with fail
      refine (unhide HC).mono ?_
      rintro e w2 ⟨v2, rfl, own2, -, b2⟩
      have bel2 := bel.trans b2
      clear HC b2
      go_wp2_with fail
      go_roundw
      case rel => exact ⟨j + 1, _, hlt, rfl, by go_num, bel2, own2⟩
      case measure => simp [intOf]; omega
    · obtain rfl : j = ls.length := by omega
      rw [List.take_length] at own
      go_wp2_with fail
      go_ret
      exact ⟨_, rfl, own, bel⟩
end Go.Proofs.YtamnndocbnbkiaaDoor

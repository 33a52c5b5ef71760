/- Math B0 FTree Tree FOpen OSize VMath Keep RegMan RegA: laid together. -/
import Derived.Test.YtfdimdjmnfdecaaGreatKZ
import Derived.Test.YtfdimdjmnfdecaaGreatProg
import Derived.WalkKit
import Derived.WalkSpells
import Derived.WalkLawsBesides
import Derived.Deep.Slices
import Derived.Lib.SmallJoins
import Derived.SizedLaws
import Derived.Deep.RegionHeld3
set_option linter.unusedVariables false
set_option linter.unusedSimpArgs false
set_option maxHeartbeats 8000000
namespace Go.Proofs.YtfdimdjmnfdecaaGreat
open Go.RowKit
section
def p10 : Nat → Int
 | 0 => 1
 | n + 1 => p10 n * 10
theorem p10_succ (n : Nat) : p10 (n + 1) = p10 n * 10 := rfl
theorem p10_pos (n : Nat) : 1 ≤ p10 n := by
 induction n with
 | zero => decide
 | succ n ih => rw [p10_succ]; omega
theorem p10_mono {a b : Nat} (h : a ≤ b) : p10 a ≤ p10 b := by
 induction h with
 | refl => omega
 | step _ ih => rw [p10_succ]; have := p10_pos a; omega
theorem p10_bd {n : Nat} (h : n ≤ 8) : p10 n ≤ 100000000 := by
 have := p10_mono h
 have e : p10 8 = 100000000 := by decide
 omega
theorem p10_add (a b : Nat) : p10 (a + b) = p10 a * p10 b := by
 induction b with
 | zero => simp [p10]
 | succ b ih => rw [← Nat.add_assoc, p10_succ, p10_succ, ih, Int.mul_assoc]
def half (n d : Int) : Int :=
 if d < 2 * (n % d) ∨ (2 * (n % d) = d ∧ (n / d) % 2 ≠ 0) then n / d + 1 else n / d
def trimM : Int → Nat → Int
 | m, 0 => m
 | m, s + 1 => if m % 10 = 0 then trimM (m / 10) s else m
def trimS : Int → Nat → Nat
 | _, 0 => 0
 | m, s + 1 => if m % 10 = 0 then trimS (m / 10) s else s + 1
def okM (m : Int) : Bool := decide (-1000000000 ≤ m ∧ m ≤ 1000000000)
def fitTM (m : Int) (s : Nat) : Nat → Int
 | 0 => 0
 | t + 1 => if okM (half m (p10 (s - t))) = true then trimM (half m (p10 (s - t))) t else fitTM m s t
def fitTS (m : Int) (s : Nat) : Nat → Nat
 | 0 => 0
 | t + 1 => if okM (half m (p10 (s - t))) = true then trimS (half m (p10 (s - t))) t else fitTS m s t
def fitTE (m : Int) (s : Nat) : Nat → Int
 | 0 => 3
 | t + 1 => if okM (half m (p10 (s - t))) = true then 0 else fitTE m s t
def argB (m s : Int) : Bool := decide (m < -1000000000000000000 ∨ 1000000000000000000 < m ∨ s < 0 ∨ 8 < s)
def fitM (m s : Int) : Int := if argB m s = true then 0 else fitTM m s.toNat (min s.toNat 4 + 1)
def fitS (m s : Int) : Int := if argB m s = true then 0 else (fitTS m s.toNat (min s.toNat 4 + 1) : Nat)
def fitE (m s : Int) : Int := if argB m s = true then 1 else fitTE m s.toNat (min s.toNat 4 + 1)
theorem div_abs (n d B : Int) (hd : 1 ≤ d) (h0 : 0 ≤ B) (h1 : -B ≤ n) (h2 : n ≤ B) : -B ≤ n / d ∧ n / d ≤ B := by
 constructor
 ·rw [Int.le_ediv_iff_mul_le (by omega)]
  have : B * 1 ≤ B * d := Int.mul_le_mul_of_nonneg_left hd h0
  rw [Int.neg_mul]; omega
 ·apply Int.ediv_le_of_le_mul (by omega)
  have : B * 1 ≤ B * d := Int.mul_le_mul_of_nonneg_left hd h0
  omega
theorem half_one (n : Int) : half n 1 = n := by
 unfold half
 rw [if_neg (by omega)]; simp
theorem okM_iff (m : Int) : okM m = true ↔ (-1000000000 ≤ m ∧ m ≤ 1000000000) := by
 unfold okM; simp
def isB (m s : Int) : Bool := okM m && (decide (0 ≤ s) && (decide (s ≤ 4) && (decide (s = 0) || decide (m % 10 ≠ 0))))
theorem isB_bd {m s : Int} (h : isB m s = true) : -1000000000 ≤ m ∧ m ≤ 1000000000 ∧ 0 ≤ s ∧ s ≤ 4 := by
 unfold isB okM at h; simp at h; omega
def upM (m s t : Int) : Int := m * p10 (t - s).toNat
theorem mul_bd (m p B C : Int) (h1 : -B ≤ m) (h2 : m ≤ B) (hp : 0 ≤ p) (hC : p ≤ C) (hB : 0 ≤ B) : -(B * C) ≤ m * p ∧ m * p ≤ B * C := by
 have a := Int.mul_le_mul_of_nonneg_right h2 hp
 have b := Int.mul_le_mul_of_nonneg_right h1 hp
 have c := Int.mul_le_mul_of_nonneg_left hC hB
 rw [Int.neg_mul] at b
 omega
theorem upM_bd {m s t : Int} (h1 : -1000000000 ≤ m) (h2 : m ≤ 1000000000) (hs : t - s ≤ 8) : -100000000000000000 ≤ upM m s t ∧ upM m s t ≤ 100000000000000000 := by
 have p1 := p10_pos (t - s).toNat
 have p2 := p10_bd (n := (t - s).toNat) (by omega)
 have := mul_bd m (p10 (t - s).toNat) 1000000000 100000000 h1 h2 (by omega) p2 (by omega)
 unfold upM
 omega
def divQ (m s n t : Int) : Int := if n < 0 then half (-(m * p10 (4 + t - s).toNat)) (-n) else half (m * p10 (4 + t - s).toNat) n
def cmpI (x y : Int) : Int := if x < y then -1 else if y < x then 1 else 0
end
section
theorem ret_int {k : IntKind} {a b : Int} (h : a = b) : Ending.returned (.int k a) = .returned (.int k b) := by rw [h]
theorem hide {p : Prop} (h : p) : Hid p := h
theorem unhide {p : Prop} (h : Hid p) : p := h
theorem bcell {W w1 : World} (hb : Below W.heap.size W w1) : (∀ b o, b < W.heap.size → w1.cell? ⟨b, o, none⟩ = W.cell? ⟨b, o, none⟩) ∧ (∀ b o, b < W.heap.size → w1.frozen? ⟨b, o, none⟩ = W.frozen? ⟨b, o, none⟩) :=
 ⟨fun b o h => hb.cell (p := ⟨b, o, none⟩) h, fun b o h => hb.frozen (p := ⟨b, o, none⟩) h⟩
theorem bstep {W w1 w2 : World} (h : Below W.heap.size W w1) (k : Below w1.heap.size w1 w2) : Below W.heap.size W w2 := h.trans (k.mono h.size)
theorem below1 (w : World) (a : Obj) : Below w.heap.size w (w.alloc a) := (Below.refl _ _).alloc (Nat.le_refl _) _
theorem below2 (w : World) (a b : Obj) : Below w.heap.size w ((w.alloc a).alloc b) := (below1 w a).alloc (by simp) _
theorem below3 (w : World) (a b c : Obj) : Below w.heap.size w (((w.alloc a).alloc b).alloc c) := (below2 w a b).alloc (by simp; omega) _
theorem i64_in {n : Int} (h1 : -9223372036854775808 ≤ n) (h2 : n ≤ 9223372036854775807) : IntKind.i64.wrap n = n := by
 show (if (IntKind.i64.signed && decide (n % (2 ^ 64 : Int) ≥ (2 ^ 63 : Int))) = true then n % (2 ^ 64 : Int) - (2 ^ 64 : Int) else n % (2 ^ 64 : Int)) = n
 simp only [IntKind.signed, Bool.true_and, decide_eq_true_eq]
 split <;> omega
theorem ret_bool {a b : Bool} (h : a = b) : Ending.returned (.bool a) = .returned (.bool b) := by rw [h]
end
section
open Go.ChangeShapes Go.WideShapes Go.RowKit
inductive XT where
 | none
 | mk (k : Int) (b : Bool) (m s : Int) (t : ByteArray) (lo hi : Bool) (a : Option Addr) (len cap : Nat) (kid : Nat → XT)
instance : Inhabited XT := ⟨.none⟩
namespace XT
def cells : XT → List Value
 | .none => []
 | .mk k b m s t lo hi a len cap _ => [.int .i64 k, .bool b, .int .i64 m, .int .i64 s, .string t, .bool lo, .bool hi, .slice a len cap]
def val : XT → Value
 | .none => .agg #[]
 | .mk k b m s t lo hi a len cap _ => .agg #[.int .i64 k, .bool b, .int .i64 m, .int .i64 s, .string t, .bool lo, .bool hi, .slice a len cap]
def In (Q : Nat → Prop) (w : World) : XT → Prop
 | .none => False
 | .mk _ _ _ _ _ _ _ a len _ kid => len ≤ maxLen ∧
   ∀ i, i < len → (∃ bl o, a = some ⟨bl, o, Option.none⟩ ∧ Q bl ∧ ∀ j, j < 8 → w.cell? ⟨bl, o + i * 8 + j, Option.none⟩ = (kid i).cells[j]?) ∧ (kid i).In Q w
theorem In.form {Q : Nat → Prop} {w : World} {x : XT} (h : x.In Q w) : ∃ k b m s t lo hi a len cap kid, x = .mk k b m s t lo hi a len cap kid := by
 cases x with
 | none => exact absurd h (by simp [In])
 | mk k b m s t lo hi a len cap kid => exact ⟨k, b, m, s, t, lo, hi, a, len, cap, kid, rfl⟩
theorem In.keep {Q : Nat → Prop} {w w' : World} (hh : ∀ bl o, bl < w.heap.size → Q bl → w'.cell? ⟨bl, o, Option.none⟩ = w.cell? ⟨bl, o, Option.none⟩) (x : XT) (h : x.In Q w) : x.In Q w' := by
 induction x with
 | none => exact h
 | mk k b m s t lo hi a len cap kid ih =>
  refine ⟨h.1, fun i hi => ?_⟩
  obtain ⟨⟨bl, o, ha, hq, hc⟩, hk⟩ := h.2 i hi
  refine ⟨⟨bl, o, ha, hq, fun j hj => ?_⟩, ih i hk⟩
  have h0 := hc 0 (by omega)
  have hl : bl < w.heap.size := by
   obtain ⟨_, _, _, _, _, _, _, _, _, _, _, hx⟩ := hk.form
   rw [hx] at h0
   exact World.block_lt_of_cell? _ _ h0
  rw [hh bl _ hl hq]
  exact hc j hj
theorem In.below {Q : Nat → Prop} {w w' : World} {x : XT} (h : x.In Q w) (b : Below w.heap.size w w') : x.In Q w' := h.keep (fun bl o hl _ => (bcell b).1 bl o hl)
theorem In.alloc {Q : Nat → Prop} {w : World} {x : XT} (h : x.In Q w) (o : Obj) : x.In Q (w.alloc o) := h.below (below1 w o)
theorem In.weak {Q Q' : Nat → Prop} {w : World} {x : XT} (h : x.In Q w) (hq : ∀ g, g < w.heap.size → Q g → Q' g) : x.In Q' w := by
 induction x with
 | none => exact h
 | mk k b m s t lo hi a len cap kid ih =>
  refine ⟨h.1, fun i hi => ?_⟩
  obtain ⟨⟨bl, o, ha, hq1, hc⟩, hk⟩ := h.2 i hi
  refine ⟨⟨bl, o, ha, ?_, hc⟩, ih i hk⟩
  have h0 := hc 0 (by omega)
  obtain ⟨_, _, _, _, _, _, _, _, _, _, _, hx⟩ := hk.form
  rw [hx] at h0
  exact hq bl (World.block_lt_of_cell? _ _ h0) hq1
theorem In.set {Q : Nat → Prop} {w : World} {x : XT} (h : x.In Q w) {p : Addr} (hp : ∀ g, Q g → g ≠ p.block) (v : Value) : x.In Q (w.setCell p v) :=
 h.keep (fun bl o hl hq => World.cell?_of_block (w := w) (Below.heap_setCell _ _ _ _ (hp bl hq)))
theorem In.set8 {Q : Nat → Prop} {w : World} {x : XT} (h : x.In Q w) {r : Nat} (hp : ∀ g, Q g → g ≠ r) (v0 v1 v2 v3 v4 v5 v6 v7 : Value) : x.In Q ((((((((w.setCell ⟨r, 0, Option.none⟩ v0).setCell ⟨r, 1, Option.none⟩ v1).setCell ⟨r, 2, Option.none⟩ v2).setCell ⟨r, 3, Option.none⟩ v3).setCell ⟨r, 4, Option.none⟩ v4).setCell ⟨r, 5, Option.none⟩ v5).setCell ⟨r, 6, Option.none⟩ v6).setCell ⟨r, 7, Option.none⟩ v7) :=
 (((((((h.set hp v0).set hp v1).set hp v2).set hp v3).set hp v4).set hp v5).set hp v6).set hp v7
def Eight (w : World) (bl o : Nat) (k : Int) (b : Bool) (m s : Int) (t : ByteArray) (lo hi : Bool) (a : Option Addr) (len cap : Nat) : Prop :=
 bl < w.heap.size ∧ w.cell? ⟨bl, o, Option.none⟩ = some (.int .i64 k) ∧ w.cell? ⟨bl, o + 1, Option.none⟩ = some (.bool b) ∧ w.cell? ⟨bl, o + 2, Option.none⟩ = some (.int .i64 m) ∧ w.cell? ⟨bl, o + 3, Option.none⟩ = some (.int .i64 s) ∧ w.cell? ⟨bl, o + 4, Option.none⟩ = some (.string t) ∧ w.cell? ⟨bl, o + 5, Option.none⟩ = some (.bool lo) ∧ w.cell? ⟨bl, o + 6, Option.none⟩ = some (.bool hi) ∧ w.cell? ⟨bl, o + 7, Option.none⟩ = some (.slice a len cap)
theorem In.kid {Q : Nat → Prop} {w : World} {k : Int} {b : Bool} {m s : Int} {t : ByteArray} {lo hi : Bool} {a : Option Addr} {len cap : Nat} {kid : Nat → XT} (h : (XT.mk k b m s t lo hi a len cap kid).In Q w) {i : Nat} (hi' : i < len) :
  ∃ bl o k' b' m' s' t' lo' hi' a' len' cap' kid', a = some ⟨bl, o, Option.none⟩ ∧ kid i = .mk k' b' m' s' t' lo' hi' a' len' cap' kid' ∧ Eight w bl (o + i * 8) k' b' m' s' t' lo' hi' a' len' cap' ∧ (XT.mk k' b' m' s' t' lo' hi' a' len' cap' kid').In Q w := by
 obtain ⟨⟨bl, o, ha, hq, hc⟩, hk⟩ := h.2 i hi'
 obtain ⟨k', b', m', s', t', lo', hi', a', len', cap', kid', hx⟩ := hk.form
 rw [hx] at hc hk
 have h0 := hc 0 (by omega)
 exact ⟨bl, o, k', b', m', s', t', lo', hi', a', len', cap', kid', ha, hx, ⟨World.block_lt_of_cell? _ _ h0, h0, hc 1 (by omega), hc 2 (by omega), hc 3 (by omega), hc 4 (by omega), hc 5 (by omega), hc 6 (by omega), hc 7 (by omega)⟩, hk⟩
theorem Eight.below {w w' : World} {bl o : Nat} {k : Int} {b : Bool} {m s : Int} {t : ByteArray} {lo hi : Bool} {a : Option Addr} {len cap : Nat} (h : Eight w bl o k b m s t lo hi a len cap) (hb : Below w.heap.size w w') : Eight w' bl o k b m s t lo hi a len cap := by
 obtain ⟨h0, h1, h2, h3, h4, h5, h6, h7, h8⟩ := h
 have hc := (bcell hb).1
 exact ⟨Nat.lt_of_lt_of_le h0 hb.size, (hc bl _ h0).trans h1, (hc bl _ h0).trans h2, (hc bl _ h0).trans h3, (hc bl _ h0).trans h4, (hc bl _ h0).trans h5, (hc bl _ h0).trans h6, (hc bl _ h0).trans h7, (hc bl _ h0).trans h8⟩
def bare : XT → XT
 | .none => .none
 | .mk k b m s t lo hi _ len _ kid => .mk k b m s t lo hi Option.none len 0 (fun i => if i < len then (kid i).bare else .none)
def tl (t : ByteArray) : List UInt8 := t.data.toList
def fld (k : Int) (b b' : Bool) (m m' s s' : Int) (t t' : ByteArray) (lo lo' hi hi' : Bool) : Bool :=
 if k = 2 then b == b' else if k = 3 then decide (m = m') && decide (s = s') else if k = 4 ∨ k = 5 ∨ k = 6 ∨ k = 10 then tl t == tl t' else if k = 11 then lo == lo' && hi == hi' else true
def same : XT → XT → Bool
 | .mk k b m s t lo hi _ len _ kid, .mk k' b' m' s' t' lo' hi' _ len' _ kid' => decide (k = k') && (decide (len = len') && (fld k b b' m m' s s' t t' lo lo' hi hi' && (List.range len).all fun i => (kid i).same (kid' i)))
 | .none, .none => true
 | _, _ => false
def mkX (k : Int) (b : Bool) (m s : Int) (t : ByteArray) (lo hi : Bool) (l : List XT) : XT := .mk k b m s t lo hi Option.none l.length 0 (fun i => l.getD i .none)
theorem bare_mk (k : Int) (b : Bool) (m s : Int) (t : ByteArray) (lo hi : Bool) (a : Option Addr) (cap : Nat) (l : List XT) : (XT.mk k b m s t lo hi a l.length cap (fun i => l.getD i .none)).bare = mkX k b m s t lo hi (l.map bare) := by
 unfold bare mkX
 rw [List.length_map]
 congr 1
 funext i
 split
 ·rename_i h; simp [h]
 ·rename_i h; simp at h; simp [h]
end XT
def xsC (l : List XT) : List Value := l.flatMap XT.cells
def Fr (B : Nat) : Nat → Prop := fun g => B ≤ g
theorem in_row {Q : Nat → Prop} {w : World} {g : Nat} (hQ : Q g) (l : List XT) (hl : l.length ≤ maxLen) (hc : ∀ i (h : i < l.length) j, j < 8 → w.cell? ⟨g, i * 8 + j, none⟩ = l[i].cells[j]?) (hin : ∀ x ∈ l, x.In Q w) (k : Int) (b : Bool) (m s : Int) (t : ByteArray) (lo hi : Bool) (cap : Nat) :
  (XT.mk k b m s t lo hi (some ⟨g, 0, none⟩) l.length cap (fun i => l.getD i .none)).In Q w := by
 refine ⟨hl, fun i h => ?_⟩
 have e : l.getD i .none = l[i] := by simp [h]
 refine ⟨⟨g, 0, rfl, hQ, fun j hj => ?_⟩, ?_⟩
 ·dsimp only
  rw [Nat.zero_add, hc i h j hj, e]
 ·dsimp only
  rw [e]
  exact hin _ (List.getElem_mem h)
theorem in_leaf {Q : Nat → Prop} {w : World} (k : Int) (b : Bool) (m s : Int) (t : ByteArray) (lo hi : Bool) : (XT.mk k b m s t lo hi none 0 0 (fun i => [].getD i .none)).In Q w :=
 ⟨Nat.zero_le _, fun i hi => absurd hi (Nat.not_lt_zero _)⟩
def zX : XT := .mk 0 false 0 0 ⟨#[]⟩ false false none 0 0 (fun _ => .none)
def zV : Value := .agg #[.int .i64 0, .bool false, .int .i64 0, .int .i64 0, .string ⟨#[]⟩, .bool false, .bool false, .slice none 0 0]
theorem zX_in (Q : Nat → Prop) (w : World) : zX.In Q w := ⟨Nat.zero_le _, fun i hi => absurd hi (Nat.not_lt_zero _)⟩
end
section
open Go.ChangeShapes Go.WideShapes Go.RowKit
inductive VT where
 | none
 | mk (k : Int) (b : Bool) (m s : Int) (t : ByteArray) (a : Option Addr) (len cap : Nat) (kid : Nat → VT)
instance : Inhabited VT := ⟨.none⟩
namespace VT
def cells : VT → List Value
 | .none => []
 | .mk k b m s t a len cap _ => [.int .i64 k, .bool b, .int .i64 m, .int .i64 s, .string t, .slice a len cap]
def val : VT → Value
 | .none => .agg #[]
 | .mk k b m s t a len cap _ => .agg #[.int .i64 k, .bool b, .int .i64 m, .int .i64 s, .string t, .slice a len cap]
def In (w : World) : VT → Prop
 | .none => False
 | .mk k _ m s t a len cap kid => ((Lit.int .i64 k).wf = true ∧ (Lit.int .i64 m).wf = true ∧ (Lit.int .i64 s).wf = true ∧ t.size ≤ maxLen ∧ len ≤ cap ∧ cap ≤ maxLen) ∧
   ∀ i, i < len → (∃ bl o, a = some ⟨bl, o, Option.none⟩ ∧ ∀ j, j < 6 → w.cell? ⟨bl, o + i * 6 + j, Option.none⟩ = (kid i).cells[j]?) ∧ (kid i).In w
theorem In.keep {w w' : World} (hh : ∀ bl o, bl < w.heap.size → w'.cell? ⟨bl, o, Option.none⟩ = w.cell? ⟨bl, o, Option.none⟩) (x : VT) (h : x.In w) : x.In w' := by
 induction x with
 | none => exact h
 | mk k b m s t a len cap kid ih =>
  refine ⟨h.1, fun i hi => ?_⟩
  obtain ⟨⟨bl, o, ha, hc⟩, hk⟩ := h.2 i hi
  refine ⟨⟨bl, o, ha, fun j hj => ?_⟩, ih i hk⟩
  have h0 := hc 0 (by omega)
  have hl : bl < w.heap.size := by
   cases hx : kid i with
   | none => rw [hx] at hk; exact absurd hk (by simp [In])
   | mk => rw [hx] at h0; exact World.block_lt_of_cell? _ _ h0
  rw [hh bl _ hl]
  exact hc j hj
theorem In.below {w w' : World} {x : VT} (h : x.In w) (b : Below w.heap.size w w') : x.In w' := h.keep (bcell b).1
def Six (w : World) (bl o : Nat) (k : Int) (b : Bool) (m s : Int) (t : ByteArray) (a : Option Addr) (len cap : Nat) : Prop :=
 bl < w.heap.size ∧ w.cell? ⟨bl, o, Option.none⟩ = some (.int .i64 k) ∧ w.cell? ⟨bl, o + 1, Option.none⟩ = some (.bool b) ∧ w.cell? ⟨bl, o + 2, Option.none⟩ = some (.int .i64 m) ∧ w.cell? ⟨bl, o + 3, Option.none⟩ = some (.int .i64 s) ∧ w.cell? ⟨bl, o + 4, Option.none⟩ = some (.string t) ∧ w.cell? ⟨bl, o + 5, Option.none⟩ = some (.slice a len cap)
theorem In.kid {w : World} {k : Int} {b : Bool} {m s : Int} {t : ByteArray} {a : Option Addr} {len cap : Nat} {kid : Nat → VT} (h : (VT.mk k b m s t a len cap kid).In w) {i : Nat} (hi : i < len) :
  ∃ bl o k' b' m' s' t' a' len' cap' kid', a = some ⟨bl, o, Option.none⟩ ∧ kid i = .mk k' b' m' s' t' a' len' cap' kid' ∧ Six w bl (o + i * 6) k' b' m' s' t' a' len' cap' ∧ (VT.mk k' b' m' s' t' a' len' cap' kid').In w := by
 obtain ⟨⟨bl, o, ha, hc⟩, hk⟩ := h.2 i hi
 cases hx : kid i with
 | none => rw [hx] at hk; exact absurd hk (by simp [In])
 | mk k' b' m' s' t' a' len' cap' kid' =>
  rw [hx] at hc hk
  have h0 := hc 0 (by omega)
  exact ⟨bl, o, k', b', m', s', t', a', len', cap', kid', ha, rfl, ⟨World.block_lt_of_cell? _ _ h0, h0, hc 1 (by omega), hc 2 (by omega), hc 3 (by omega), hc 4 (by omega), hc 5 (by omega)⟩, hk⟩
theorem Six.below {w w' : World} {bl o : Nat} {k : Int} {b : Bool} {m s : Int} {t : ByteArray} {a : Option Addr} {len cap : Nat} (h : Six w bl o k b m s t a len cap) (hb : Below w.heap.size w w') : Six w' bl o k b m s t a len cap := by
 obtain ⟨h0, h1, h2, h3, h4, h5, h6⟩ := h
 have hc := (bcell hb).1
 exact ⟨Nat.lt_of_lt_of_le h0 hb.size, (hc bl _ h0).trans h1, (hc bl _ h0).trans h2, (hc bl _ h0).trans h3, (hc bl _ h0).trans h4, (hc bl _ h0).trans h5, (hc bl _ h0).trans h6⟩
end VT
theorem cellsVal : Tryz.prog.cellsOf 32 = 6 := by kernel_rfl
theorem cellsD : Tryz.prog.cellsOf 23 = 2 := by kernel_rfl
theorem cellsI : Tryz.prog.cellsOf 3 = 1 := by kernel_rfl
theorem cellsB : Tryz.prog.cellsOf 4 = 1 := by kernel_rfl
theorem cellsS : Tryz.prog.cellsOf 9 = 1 := by kernel_rfl
theorem cellsL : Tryz.prog.cellsOf 30 = 1 := by kernel_rfl
section
variable {H : Type} {enc : TypeId × Value → H} {w : World} {base : Nat} {spare : Nat → Bool} {held : Bool}
set_option maxRecDepth 10000 in
theorem open_dec {fuel : Nat} {v0 v1 : Value} {x : DataW H × List MemPlace} (h : DataW.trod enc Tryz.prog w base spare held fuel 23 [v0, v1] = some x) :
  ∃ m s : Int, v0 = .int .i64 m ∧ v1 = .int .i64 s ∧ (Lit.int .i64 m).wf = true ∧ (Lit.int .i64 s).wf = true := by
 obtain ⟨xs, n, rfl, rfl, hl, hlen, hf⟩ := DataW.trod_struct Tryz.underlying23 h
 match xs, hlen with
 | [y0, y1], _ =>
  have g0 := hf 0 _ rfl
  have g1 := hf 1 _ rfl
  simp [cellsI] at g0 g1
  obtain ⟨m, e0, -, w0⟩ := DataW.trod_int Tryz.underlying3 g0
  obtain ⟨s, e1, -, w1⟩ := DataW.trod_int Tryz.underlying3 g1
  simp at e0 e1
  exact ⟨m, s, e0, e1, w0, w1⟩
set_option maxRecDepth 10000 in
theorem open_val (fuel : Nat) : ∀ {cs : List Value} {x : DataW H × List MemPlace}, DataW.trod enc Tryz.prog w base spare held fuel 32 cs = some x →
  ∃ T : VT, cs = T.cells ∧ T.In w := by
 induction fuel using Nat.strongRecOn with
 | _ fuel ih =>
  intro cs x h
  obtain ⟨xs, n, rfl, rfl, hl, hlen, hf⟩ := DataW.trod_struct Tryz.underlying32 h
  rw [cellsVal] at hl
  match xs, hlen, cs, hl with
  | [y0, y1, y2, y3, y4], _, [v0, v1, v2, v3, v4, v5], _ =>
   have g0 := hf 0 _ rfl
   have g1 := hf 1 _ rfl
   have g2 := hf 2 _ rfl
   have g3 := hf 3 _ rfl
   have g4 := hf 4 _ rfl
   simp [cellsI, cellsB, cellsD, cellsS, cellsL] at g0 g1 g2 g3 g4
   obtain ⟨k, e0, -, w0⟩ := DataW.trod_int Tryz.underlying3 g0
   obtain ⟨b, e1, -⟩ := DataW.trod_bool Tryz.underlying4 g1
   obtain ⟨m, s, rfl, rfl, w1, w2⟩ := open_dec g2
   obtain ⟨t, e3, -, w3⟩ := DataW.trod_string Tryz.underlying9 g3
   simp at e0 e1 e3
   subst e0 e1 e3
   rcases DataW.trod_slice Tryz.underlying30 g4 with ⟨e4, -⟩ | ⟨a, len, cap, elems, rest, n', hn, e4, -, hb, hlc, hcm, hel, hget, -, -⟩
   ·simp at e4
    subst e4
    exact ⟨.mk k b m s t Option.none 0 0 (fun _ => .none), rfl, ⟨w0, w1, w2, w3, Nat.le_refl _, Nat.zero_le _⟩, fun i hi => absurd hi (Nat.not_lt_zero _)⟩
   ·simp at e4
    subst e4
    rw [cellsVal] at hget
    have hspot : 0 < len → a.spot = Option.none := fun h0 => by
     have key := hget 0 h0
     rw [List.getElem?_eq_getElem (by omega)] at key
     obtain ⟨cs', h1, h2⟩ := Option.bind_eq_some_iff.1 key
     obtain ⟨T, rfl, hT⟩ := ih n' (by omega) h2
     obtain ⟨_, _, hcell⟩ := World.cells?_some h1
     have h0 := hcell 0 (by omega)
     cases T with
     | none => exact absurd hT (by simp [VT.In])
     | mk =>
      have h00 := World.cell?_spot h0
      simpa [Addr.add] using h00
    obtain ⟨kid, hkid⟩ := Deep.choose_lt (α := VT) (n := len) (p := fun i T => (∃ bl o, a = ⟨bl, o, Option.none⟩ ∧ ∀ j, j < 6 → w.cell? ⟨bl, o + i * 6 + j, Option.none⟩ = T.cells[j]?) ∧ T.In w) (fun i hi => by
     have key := hget i hi
     rw [List.getElem?_eq_getElem (by omega)] at key
     obtain ⟨cs', h1, h2⟩ := Option.bind_eq_some_iff.1 key
     obtain ⟨T, rfl, hT⟩ := ih n' (by omega) h2
     obtain ⟨_, _, hcell⟩ := World.cells?_some h1
     refine ⟨T, ?_, hT⟩
     obtain ⟨bl, o, spot⟩ := a
     have hsp : spot = Option.none := hspot (by omega)
     subst hsp
     refine ⟨bl, o, rfl, fun j hj => ?_⟩
     have := hcell j hj
     rwa [add_plain, add_plain] at this)
    refine ⟨.mk k b m s t (some a) len cap kid, rfl, ⟨w0, w1, w2, w3, hlc, hcm⟩, fun i hi => ?_⟩
    obtain ⟨⟨bl, o, ha, hc⟩, hk⟩ := hkid i hi
    exact ⟨⟨bl, o, by rw [ha], hc⟩, hk⟩
end
end
section
open Go.ChangeShapes Go.WideShapes Go.RowKit
theorem cellsExpr : Tryz.prog.cellsOf 26 = 8 := by kernel_rfl
theorem cellsXL : Tryz.prog.cellsOf 24 = 1 := by kernel_rfl
section
variable {H : Type} {enc : TypeId × Value → H} {w : World} {base : Nat} {spare : Nat → Bool} {held : Bool}
end
end
section
open Go.ChangeShapes Go.WideShapes Go.RowKit
theorem bytesExpr : Tryz.prog.bytesOf 26 = 80 := by kernel_rfl
def rchX : XT → Prop
 | .none => True
 | .mk _ _ _ _ t _ _ _ len _ kid => t.size ≤ reachBytes ∧ len * 80 ≤ reachBytes ∧ ∀ i, i < len → rchX (kid i)
theorem weights_part {H : Type} {P : Program} {t : TypeId} {fs : Array Field} {parts : List (DataW H)} (hu : P.underlying t = some (.struct fs)) {j : Nat} {u : TypeId} {d : DataW H} (ht : (fs.toList.map (·.type))[j]? = some u) (hd : parts[j]? = some d) : ∀ n ∈ d.weights P u, n ∈ (DataW.agg parts).weights P t := by
 intro n hn
 simp only [DataW.weights, hu]
 exact DataW.weights_mem_each ht hd n hn
theorem weights_head {H : Type} {P : Program} {t e : TypeId} {elems spare : List (DataW H)} (hu : P.underlying t = some (.slice e)) : (elems.length + spare.length) * P.bytesOf e ∈ (DataW.slice elems spare).weights P t := by
 simp only [DataW.weights, hu]
 exact List.mem_cons_self
theorem weights_all {H : Type} {P : Program} {e : TypeId} {l : List (DataW H)} {d : DataW H} (hd : d ∈ l) : ∀ n ∈ d.weights P e, n ∈ DataW.weightsAll P e l := by
 induction l with
 | nil => cases hd
 | cons a l ih =>
  intro n hn
  simp only [DataW.weightsAll, List.mem_append]
  rcases List.mem_cons.1 hd with rfl | h
  ·exact .inl hn
  ·exact .inr (ih h n hn)
theorem weights_elem {H : Type} {P : Program} {t e : TypeId} {elems spare : List (DataW H)} (hu : P.underlying t = some (.slice e)) {d : DataW H} (hd : d ∈ elems) : ∀ n ∈ d.weights P e, n ∈ (DataW.slice elems spare).weights P t := by
 intro n hn
 simp only [DataW.weights, hu, List.mem_cons, List.mem_append]
 exact .inr (.inl (weights_all hd n hn))
section
variable {H : Type} {enc : TypeId × Value → H} {w : World} {base : Nat} {spare : Nat → Bool} {held : Bool}
set_option maxRecDepth 10000 in
theorem open_exprS (fuel : Nat) : ∀ {cs : List Value} {x : DataW H × List MemPlace}, DataW.trod enc Tryz.prog w base spare held fuel 26 cs = some x → (∀ n ∈ x.1.weights Tryz.prog 26, n ≤ reachBytes) →
  ∃ T : XT, cs = T.cells ∧ T.In (fun _ => True) w ∧ rchX T := by
 induction fuel using Nat.strongRecOn with
 | _ fuel ih =>
  intro cs x h hw
  obtain ⟨xs, n, rfl, rfl, hl, hlen, hf⟩ := DataW.trod_struct Tryz.underlying26 h
  rw [cellsExpr] at hl
  match xs, hlen, cs, hl with
  | [y0, y1, y2, y3, y4, y5, y6], _, [v0, v1, v2, v3, v4, v5, v6, v7], _ =>
   have g0 := hf 0 _ rfl
   have g1 := hf 1 _ rfl
   have g2 := hf 2 _ rfl
   have g3 := hf 3 _ rfl
   have g5 := hf 4 _ rfl
   have g6 := hf 5 _ rfl
   have g4 := hf 6 _ rfl
   simp [cellsI, cellsB, cellsD, cellsS, cellsXL] at g0 g1 g2 g3 g4 g5 g6
   obtain ⟨k, e0, -, w0⟩ := DataW.trod_int Tryz.underlying3 g0
   obtain ⟨b, e1, -⟩ := DataW.trod_bool Tryz.underlying4 g1
   obtain ⟨m, s, rfl, rfl, w1, w2⟩ := open_dec g2
   obtain ⟨t, e3, hy3, w3⟩ := DataW.trod_string Tryz.underlying9 g3
   have hw2 : ∀ n ∈ (DataW.agg [y0.1, y1.1, y2.1, y3.1, y4.1, y5.1, y6.1]).weights Tryz.prog 26, n ≤ reachBytes := hw
   have hp3 := weights_part (P := Tryz.prog) (parts := [y0.1, y1.1, y2.1, y3.1, y4.1, y5.1, y6.1]) Tryz.underlying26 (j := 3) (u := 9) (d := y3.1) (by kernel_rfl) rfl
   have hp6 := weights_part (P := Tryz.prog) (parts := [y0.1, y1.1, y2.1, y3.1, y4.1, y5.1, y6.1]) Tryz.underlying26 (j := 6) (u := 24) (d := y6.1) (by kernel_rfl) rfl
   have ht : t.size ≤ reachBytes := by
    have h := hw2 t.data.toList.length (hp3 _ (by rw [hy3]; simp [DataW.weights]))
    rw [Array.length_toList] at h
    exact h
   obtain ⟨lo, e5, -⟩ := DataW.trod_bool Tryz.underlying4 g5
   obtain ⟨hi, e6, -⟩ := DataW.trod_bool Tryz.underlying4 g6
   simp at e0 e1 e3 e5 e6
   subst e0 e1 e3 e5 e6
   rcases DataW.trod_slice Tryz.underlying24 g4 with ⟨e4, -⟩ | ⟨a, len, cap, elems, rest, n', hn, e4, hy6, hb, hlc, hcm, hel, hget, -, -⟩
   ·simp at e4
    subst e4
    exact ⟨.mk k b m s t lo hi Option.none 0 0 (fun _ => .none), rfl, ⟨Nat.zero_le _, fun i hi => absurd hi (Nat.not_lt_zero _)⟩, ht, by decide, fun i hi => absurd hi (Nat.not_lt_zero _)⟩
   ·simp at e4
    subst e4
    rw [cellsExpr] at hget
    have hwl : ∀ n ∈ (DataW.slice (elems.map (·.1)) (rest.map (·.1))).weights Tryz.prog 24, n ≤ reachBytes := fun n hn => hw2 n (hp6 n (by rw [hy6]; exact hn))
    have hln : len * 80 ≤ reachBytes := by
     have h1 := hwl _ (weights_head Tryz.underlying24)
     rw [bytesExpr, List.length_map, List.length_map, hel] at h1
     exact Nat.le_trans (Nat.mul_le_mul_right _ (Nat.le_add_right _ _)) h1
    have hwe : ∀ (i : Nat) (hi : i < elems.length), ∀ n ∈ (elems[i]).1.weights Tryz.prog 26, n ≤ reachBytes := fun i hi n hn => hwl n (weights_elem Tryz.underlying24 (List.mem_map_of_mem (List.getElem_mem hi)) n hn)
    have hspot : 0 < len → a.spot = Option.none := fun h0 => by
     have key := hget 0 h0
     rw [List.getElem?_eq_getElem (by omega)] at key
     obtain ⟨cs', h1, h2⟩ := Option.bind_eq_some_iff.1 key
     obtain ⟨T, rfl, hT, -⟩ := ih n' (by omega) h2 (hwe 0 (by omega))
     obtain ⟨_, _, hcell⟩ := World.cells?_some h1
     have h0 := hcell 0 (by omega)
     cases T with
     | none => exact absurd hT (by simp [XT.In])
     | mk =>
      have h00 := World.cell?_spot h0
      simpa [Addr.add] using h00
    obtain ⟨kid, hkid⟩ := Deep.choose_lt (α := XT) (n := len) (p := fun i T => (∃ bl o, a = ⟨bl, o, Option.none⟩ ∧ ∀ j, j < 8 → w.cell? ⟨bl, o + i * 8 + j, Option.none⟩ = T.cells[j]?) ∧ T.In (fun _ => True) w ∧ rchX T) (fun i hi => by
     have key := hget i hi
     rw [List.getElem?_eq_getElem (by omega)] at key
     obtain ⟨cs', h1, h2⟩ := Option.bind_eq_some_iff.1 key
     obtain ⟨T, rfl, hT⟩ := ih n' (by omega) h2 (hwe i (by omega))
     obtain ⟨_, _, hcell⟩ := World.cells?_some h1
     refine ⟨T, ?_, hT⟩
     obtain ⟨bl, o, spot⟩ := a
     have hsp : spot = Option.none := hspot (by omega)
     subst hsp
     refine ⟨bl, o, rfl, fun j hj => ?_⟩
     have := hcell j hj
     rwa [add_plain, add_plain] at this)
    refine ⟨.mk k b m s t lo hi (some a) len cap kid, rfl, ⟨by omega, fun i hi => ?_⟩, ht, hln, fun i hi => (hkid i hi).2.2⟩
    obtain ⟨⟨bl, o, ha, hc⟩, hk, -⟩ := hkid i hi
    exact ⟨⟨bl, o, by rw [ha], trivial, hc⟩, hk⟩
set_option maxRecDepth 10000 in
theorem open_xargS {r : Reach} {b0 : Nat} {v : Value} {d : DataW H} {p : List MemPlace} (hv : Value.okWide Tryz.prog w r b0 26 v) (h : DataW.Trod enc Tryz.prog w base spare held 26 v d p) (hw : ∀ n ∈ d.weights Tryz.prog 26, n ≤ reachBytes) :
  ∃ T : XT, v = T.val ∧ T.In (fun _ => True) w ∧ rchX T := by
 obtain ⟨cs, rfl, hsz⟩ := okWide_struct Tryz.underlying26 hv
 obtain ⟨fuel, hf⟩ := h
 obtain ⟨T, hT, hin, hfr⟩ := open_exprS fuel hf hw
 refine ⟨T, ?_, hin, hfr⟩
 cases T with
 | none => exact absurd hin (by simp [XT.In])
 | mk =>
  simp [Value.cells] at hT
  show Value.agg cs = .agg _
  congr 1
  apply Array.ext'
  simpa [XT.cells] using hT
end
end
section
def okC (c : UInt8) : Bool := decide (32 ≤ (c.toNat : Int) ∧ (c.toNat : Int) ≤ 126 ∧ (c.toNat : Int) ≠ 34)
def textB (t : ByteArray) : Bool := decide (t.size ≤ 16) && t.data.toList.all okC
theorem okC_mk {c : UInt8} (h1 : 32 ≤ (c.toNat : Int)) (h2 : (c.toNat : Int) ≤ 126) (h3 : ¬ (c.toNat : Int) = 34) : okC c = true := decide_eq_true ⟨h1, h2, h3⟩
theorem okC_no {c : UInt8} (h : (c.toNat : Int) < 32 ∨ 126 < (c.toNat : Int) ∨ (c.toNat : Int) = 34) : okC c = false := decide_eq_false (by omega)
theorem take_snoc (s : ByteArray) (k : Nat) (h : k < s.size) : s.data.toList.take (k + 1) = s.data.toList.take k ++ [s[k]] := by
 rw [List.take_succ_eq_append_getElem (by simpa using h)]; rfl
theorem all_snoc {s : ByteArray} {k : Nat} (h : k < s.size) (h1 : (s.data.toList.take k).all okC = true) (h2 : okC s[k] = true) : (s.data.toList.take (k + 1)).all okC = true := by
 rw [take_snoc s k h, List.all_append, h1]; simp [h2]
theorem all_bad {s : ByteArray} {k : Nat} (h : k < s.size) (h2 : okC s[k] = false) : s.data.toList.all okC = false := by
 rw [Bool.eq_false_iff]
 intro h3
 rw [List.all_eq_true] at h3
 have := h3 s[k] (by rw [show s[k] = s.data.toList[k]'(by simpa using h) from rfl]; exact List.getElem_mem _)
 rw [h2] at this; cases this
theorem all_full {s : ByteArray} {k : Nat} (h : ¬ k < s.size) (h1 : (s.data.toList.take k).all okC = true) : s.data.toList.all okC = true := by
 rwa [List.take_of_length_le (by simp; omega)] at h1
theorem len0 (n : Nat) : ((n : Int) == 0) = decide (n = 0) := by
 by_cases h : n = 0
 ·subst h; rfl
 ·simp [h]
theorem bytes_ext {t t' : ByteArray} (h : t.toList = t'.toList) : t = t' := by
 rw [ByteArray.toList_eq, ByteArray.toList_eq] at h
 cases t; cases t'
 congr 1
 exact Array.toList_inj.1 h
def aloneB (k : Int) (b : Bool) (m s : Int) (t : ByteArray) (len : Nat) : Bool :=
 (decide (k = 1) || !b) && ((decide (k = 2) || (decide (m = 0) && decide (s = 0))) && ((decide (k = 3) || decide (t.toList = [])) && (decide (k = 4) || decide (len = 0))))
def VT.okB : VT → Nat → Bool
 | .none, _ => false
 | .mk k b m s t _ len _ kid, n => aloneB k b m s t len &&
   (if k = 0 ∨ k = 1 then true else if k = 2 then isB m s else if k = 3 then textB t else if k = 4 then decide (n ≠ 0) && (decide (len ≤ 8) && (List.range len).all fun i => (kid i).okB (n - 1)) else false)
theorem alone_t {k : Int} {b : Bool} {m s : Int} {t : ByteArray} {len : Nat} (h : aloneB k b m s t len = true) :
  (k ≠ 1 → b = false) ∧ (k ≠ 2 → m = 0 ∧ s = 0) ∧ (k ≠ 3 → t.toList = []) ∧ (k ≠ 4 → len = 0) := by
 simp only [aloneB, Bool.and_eq_true, Bool.or_eq_true, decide_eq_true_eq, Bool.not_eq_true'] at h
 obtain ⟨h1, h2, h3, h4⟩ := h
 exact ⟨fun e => h1.resolve_left e, fun e => h2.resolve_left e, fun e => h3.resolve_left e, fun e => h4.resolve_left e⟩
theorem alone_f {k : Int} {b : Bool} {m s : Int} {t : ByteArray} {len : Nat} (h : aloneB k b m s t len = false) :
  (k ≠ 1 ∧ b = true) ∨ (k ≠ 2 ∧ (m ≠ 0 ∨ s ≠ 0)) ∨ (k ≠ 3 ∧ ¬ t.toList = []) ∨ (k ≠ 4 ∧ len ≠ 0) := by
 apply Classical.byContradiction
 intro hn
 have hn := not_or.1 hn
 have ⟨n1, hn⟩ := hn
 have hn := not_or.1 hn
 have ⟨n2, hn⟩ := hn
 have ⟨n3, n4⟩ := not_or.1 hn
 rw [Bool.eq_false_iff] at h
 apply h
 simp only [aloneB, Bool.and_eq_true, Bool.or_eq_true, decide_eq_true_eq, Bool.not_eq_true']
 refine ⟨?_, ?_, ?_, ?_⟩
 ·by_cases e : k = 1
  ·exact Or.inl e
  ·cases b
   ·exact Or.inr rfl
   ·exact absurd ⟨e, rfl⟩ n1
 ·by_cases e : k = 2
  ·exact Or.inl e
  ·exact Or.inr (by omega)
 ·by_cases e : k = 3
  ·exact Or.inl e
  ·refine Or.inr (Classical.byContradiction fun hc => n3 ⟨e, hc⟩)
 ·by_cases e : k = 4
  ·exact Or.inl e
  ·exact Or.inr (by omega)
theorem all_range {n : Nat} {f : Nat → Bool} (h : ∀ i, i < n → f i = true) : (List.range n).all f = true := by
 rw [List.all_eq_true]; exact fun i hi => h i (List.mem_range.1 hi)
theorem all_range_no {n i : Nat} {f : Nat → Bool} (hi : i < n) (h : f i = false) : (List.range n).all f = false := by
 rw [Bool.eq_false_iff]
 intro h2
 rw [List.all_eq_true] at h2
 have := h2 i (List.mem_range.2 hi)
 rw [h] at this; cases this
theorem all_range_get {n i : Nat} {f : Nat → Bool} (h : (List.range n).all f = true) (hi : i < n) : f i = true := (List.all_eq_true.1 h) i (List.mem_range.2 hi)
end
section
theorem keep_call {V x y : World} {p : Prop} (h : Below V.heap.size V x ∧ p) (k : Below x.heap.size x y) : Below V.heap.size V y := bstep h.1 k
theorem keep_alloc {V x : World} {p : Prop} (h : Below V.heap.size V x ∧ p) (o : Obj) : Below V.heap.size V (x.alloc o) := h.1.alloc h.1.size o
theorem kcell {x y : World} (k : Below x.heap.size x y) {b o : Nat} {v : Value} (h : b < x.heap.size) (hc : x.cell? ⟨b, o, none⟩ = some v) : y.cell? ⟨b, o, none⟩ = some v := ((bcell k).1 b o h).trans hc
theorem kfroz {x y : World} (k : Below x.heap.size x y) {b o : Nat} (h : b < x.heap.size) (hc : x.frozen? ⟨b, o, none⟩ = false) : y.frozen? ⟨b, o, none⟩ = false := ((bcell k).2 b o h).trans hc
def Has (V : World) (b : Nat) (m s : Int) : Prop := b < V.heap.size ∧ V.cell? ⟨b, 0, none⟩ = some (.int .i64 m) ∧ V.cell? ⟨b, 1, none⟩ = some (.int .i64 s)
theorem Has.call {V x : World} {b : Nat} {m s : Int} (h : Has V b m s) (k : Below V.heap.size V x) : Has x b m s := ⟨Nat.lt_of_lt_of_le h.1 k.size, kcell k h.1 h.2.1, kcell k h.1 h.2.2⟩
theorem Has.put {V : World} {b : Nat} {m s : Int} (h : Has V b m s) (o : Obj) : Has (V.alloc o) b m s := by
 obtain ⟨h1, h2, h3⟩ := h
 exact ⟨by simp; omega, by go_simp, by go_simp⟩
theorem Has.new (V : World) (m s : Int) (t : TypeId) : Has (V.alloc (Obj.cells #[.int .i64 m, .int .i64 s] t)) V.heap.size m s := ⟨by simp, by go_simp, by go_simp⟩
end
section
theorem takeAt {P : Program} {ops : Array Oper} {Q : Exit → Act → World → Prop} {md : Region.Mode} {S : World → Prop} {fuel : Nat} {listed : Array Bool} {a : Act} {w : World} (i : Nat) (d : Option Tmp) (v : Value)
  (hi : ∃ oi, ops[i]? = some oi ∧ oi.dst = d ∧ Region.wanted oi (yielded ops a.tmps) = true ∧ ∀ w, S w → (execOp a.eval oi).run P w = .ok (.value v) w)
  (hs : Region.noSelect ops = true) (hf : Region.free md ops listed i = true) (hr : (Region.ready md ops listed).contains i = true)
  (hQ : ∀ c a w, Q (.panic c) (a.put d v) w → Q (.panic c) a w) (hS : S w)
  (h : wpAnyH P md ops Q S fuel (listed.setIfInBounds i true) (a.put d v) w) : wpAnyH P md ops Q S (fuel + 1) listed a w := by
 obtain ⟨oi, h1, h2, h3, h4⟩ := hi
 subst h2
 exact wpAnyH_take h1 hs hf hr hQ (Or.inl ⟨h3, h4⟩) hS h
end
section
theorem takeC {P : Program} {ops : Array Oper} {Q : Exit → Act → World → Prop} {md : Region.Mode} {S : World → Prop} {fuel : Nat} {listed : Array Bool} {a a' : Act} {w : World} (i : Nat) (d : Option Tmp) {v : Value}
  (h : wpAnyH P md ops Q S fuel (listed.setIfInBounds i true) a' w)
  (hi : ∃ oi, ops[i]? = some oi ∧ oi.dst = d ∧ Region.wanted oi (yielded ops a.tmps) = true ∧ ∀ w, S w → (execOp a.eval oi).run P w = .ok (.value v) w := by
   exact ⟨_, rfl, rfl, rfl, by (intro w0 hSw; (try rw [unhide HSS] at hSw); (try dsimp only at hSw); go_simp; try (with_reducible rfl))⟩)
  (hp : a.put d v = a' := by (simp only [Act.put, List.setIfInBounds_toArray, List.set_cons_zero, List.set_cons_succ]; rfl))
  (hs : Region.noSelect ops = true := by kernel_rfl) (hf : Region.free md ops listed i = true := by kernel_rfl) (hr : (Region.ready md ops listed).contains i = true := by kernel_rfl)
  (hQ : ∀ c a w, Q (.panic c) (a.put d v) w → Q (.panic c) a w := by exact fun _ _ _ h => h) (hS : S w := by assumption) : wpAnyH P md ops Q S (fuel + 1) listed a w := takeAt i d v hi hs hf hr hQ hS (hp ▸ h)
end
end Go.Proofs.YtfdimdjmnfdecaaGreat

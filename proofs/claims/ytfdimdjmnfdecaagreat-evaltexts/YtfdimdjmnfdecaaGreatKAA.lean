/- Math B0 Tree VMath Keep VSame Math2 Math3 Math4 Math5 RegMan RegA: laid together. -/
import Derived.Test.YtfdimdjmnfdecaaGreatKZ
import Derived.Test.YtfdimdjmnfdecaaGreatProg
import Derived.WalkKit
import Derived.WalkSpells
import Derived.WalkLawsBesides
import Derived.Deep.Slices
import Derived.Lib.SmallJoins
import Derived.Deep.RegionHeld3
import Derived.Deep.DrawnRows
import GoSem.Claim
set_option linter.unusedVariables false
set_option linter.unusedSimpArgs false
set_option maxHeartbeats 8000000
namespace Go.Proofs.YtfdimdjmnfdecaaGreat
open Go.RowKit
section
def p10 : Nat → Int
 | 0 => 1
 | n + 1 => p10 n * 10
theorem p10_succ (n : Nat) : p10 (n + 1) = p10 n * 10 := rfl
theorem p10_pos (n : Nat) : 1 ≤ p10 n := by
 induction n with
 | zero => decide
 | succ n ih => rw [p10_succ]; omega
theorem p10_mono {a b : Nat} (h : a ≤ b) : p10 a ≤ p10 b := by
 induction h with
 | refl => omega
 | step _ ih => rw [p10_succ]; have := p10_pos a; omega
theorem p10_bd {n : Nat} (h : n ≤ 8) : p10 n ≤ 100000000 := by
 have := p10_mono h
 have e : p10 8 = 100000000 := by decide
 omega
theorem p10_add (a b : Nat) : p10 (a + b) = p10 a * p10 b := by
 induction b with
 | zero => simp [p10]
 | succ b ih => rw [← Nat.add_assoc, p10_succ, p10_succ, ih, Int.mul_assoc]
def half (n d : Int) : Int :=
 if d < 2 * (n % d) ∨ (2 * (n % d) = d ∧ (n / d) % 2 ≠ 0) then n / d + 1 else n / d
def trimM : Int → Nat → Int
 | m, 0 => m
 | m, s + 1 => if m % 10 = 0 then trimM (m / 10) s else m
def trimS : Int → Nat → Nat
 | _, 0 => 0
 | m, s + 1 => if m % 10 = 0 then trimS (m / 10) s else s + 1
def okM (m : Int) : Bool := decide (-1000000000 ≤ m ∧ m ≤ 1000000000)
def fitTM (m : Int) (s : Nat) : Nat → Int
 | 0 => 0
 | t + 1 => if okM (half m (p10 (s - t))) = true then trimM (half m (p10 (s - t))) t else fitTM m s t
def fitTS (m : Int) (s : Nat) : Nat → Nat
 | 0 => 0
 | t + 1 => if okM (half m (p10 (s - t))) = true then trimS (half m (p10 (s - t))) t else fitTS m s t
def fitTE (m : Int) (s : Nat) : Nat → Int
 | 0 => 3
 | t + 1 => if okM (half m (p10 (s - t))) = true then 0 else fitTE m s t
def argB (m s : Int) : Bool := decide (m < -1000000000000000000 ∨ 1000000000000000000 < m ∨ s < 0 ∨ 8 < s)
def fitM (m s : Int) : Int := if argB m s = true then 0 else fitTM m s.toNat (min s.toNat 4 + 1)
def fitS (m s : Int) : Int := if argB m s = true then 0 else (fitTS m s.toNat (min s.toNat 4 + 1) : Nat)
def fitE (m s : Int) : Int := if argB m s = true then 1 else fitTE m s.toNat (min s.toNat 4 + 1)
theorem div_abs (n d B : Int) (hd : 1 ≤ d) (h0 : 0 ≤ B) (h1 : -B ≤ n) (h2 : n ≤ B) : -B ≤ n / d ∧ n / d ≤ B := by
 constructor
 ·rw [Int.le_ediv_iff_mul_le (by omega)]
  have : B * 1 ≤ B * d := Int.mul_le_mul_of_nonneg_left hd h0
  rw [Int.neg_mul]; omega
 ·apply Int.ediv_le_of_le_mul (by omega)
  have : B * 1 ≤ B * d := Int.mul_le_mul_of_nonneg_left hd h0
  omega
theorem half_one (n : Int) : half n 1 = n := by
 unfold half
 rw [if_neg (by omega)]; simp
theorem okM_iff (m : Int) : okM m = true ↔ (-1000000000 ≤ m ∧ m ≤ 1000000000) := by
 unfold okM; simp
def isB (m s : Int) : Bool := okM m && (decide (0 ≤ s) && (decide (s ≤ 4) && (decide (s = 0) || decide (m % 10 ≠ 0))))
theorem isB_bd {m s : Int} (h : isB m s = true) : -1000000000 ≤ m ∧ m ≤ 1000000000 ∧ 0 ≤ s ∧ s ≤ 4 := by
 unfold isB okM at h; simp at h; omega
def upM (m s t : Int) : Int := m * p10 (t - s).toNat
theorem mul_bd (m p B C : Int) (h1 : -B ≤ m) (h2 : m ≤ B) (hp : 0 ≤ p) (hC : p ≤ C) (hB : 0 ≤ B) : -(B * C) ≤ m * p ∧ m * p ≤ B * C := by
 have a := Int.mul_le_mul_of_nonneg_right h2 hp
 have b := Int.mul_le_mul_of_nonneg_right h1 hp
 have c := Int.mul_le_mul_of_nonneg_left hC hB
 rw [Int.neg_mul] at b
 omega
theorem upM_bd {m s t : Int} (h1 : -1000000000 ≤ m) (h2 : m ≤ 1000000000) (hs : t - s ≤ 8) : -100000000000000000 ≤ upM m s t ∧ upM m s t ≤ 100000000000000000 := by
 have p1 := p10_pos (t - s).toNat
 have p2 := p10_bd (n := (t - s).toNat) (by omega)
 have := mul_bd m (p10 (t - s).toNat) 1000000000 100000000 h1 h2 (by omega) p2 (by omega)
 unfold upM
 omega
def divQ (m s n t : Int) : Int := if n < 0 then half (-(m * p10 (4 + t - s).toNat)) (-n) else half (m * p10 (4 + t - s).toNat) n
def cmpI (x y : Int) : Int := if x < y then -1 else if y < x then 1 else 0
end
section
theorem ret_int {k : IntKind} {a b : Int} (h : a = b) : Ending.returned (.int k a) = .returned (.int k b) := by rw [h]
theorem hide {p : Prop} (h : p) : Hid p := h
theorem unhide {p : Prop} (h : Hid p) : p := h
theorem bcell {W w1 : World} (hb : Below W.heap.size W w1) : (∀ b o, b < W.heap.size → w1.cell? ⟨b, o, none⟩ = W.cell? ⟨b, o, none⟩) ∧ (∀ b o, b < W.heap.size → w1.frozen? ⟨b, o, none⟩ = W.frozen? ⟨b, o, none⟩) :=
 ⟨fun b o h => hb.cell (p := ⟨b, o, none⟩) h, fun b o h => hb.frozen (p := ⟨b, o, none⟩) h⟩
theorem bstep {W w1 w2 : World} (h : Below W.heap.size W w1) (k : Below w1.heap.size w1 w2) : Below W.heap.size W w2 := h.trans (k.mono h.size)
theorem below1 (w : World) (a : Obj) : Below w.heap.size w (w.alloc a) := (Below.refl _ _).alloc (Nat.le_refl _) _
theorem below2 (w : World) (a b : Obj) : Below w.heap.size w ((w.alloc a).alloc b) := (below1 w a).alloc (by simp) _
theorem below3 (w : World) (a b c : Obj) : Below w.heap.size w (((w.alloc a).alloc b).alloc c) := (below2 w a b).alloc (by simp; omega) _
theorem i64_in {n : Int} (h1 : -9223372036854775808 ≤ n) (h2 : n ≤ 9223372036854775807) : IntKind.i64.wrap n = n := by
 show (if (IntKind.i64.signed && decide (n % (2 ^ 64 : Int) ≥ (2 ^ 63 : Int))) = true then n % (2 ^ 64 : Int) - (2 ^ 64 : Int) else n % (2 ^ 64 : Int)) = n
 simp only [IntKind.signed, Bool.true_and, decide_eq_true_eq]
 split <;> omega
theorem ret_bool {a b : Bool} (h : a = b) : Ending.returned (.bool a) = .returned (.bool b) := by rw [h]
end
section
open Go.ChangeShapes Go.WideShapes Go.RowKit
inductive VT where
 | none
 | mk (k : Int) (b : Bool) (m s : Int) (t : ByteArray) (a : Option Addr) (len cap : Nat) (kid : Nat → VT)
instance : Inhabited VT := ⟨.none⟩
namespace VT
def cells : VT → List Value
 | .none => []
 | .mk k b m s t a len cap _ => [.int .i64 k, .bool b, .int .i64 m, .int .i64 s, .string t, .slice a len cap]
def val : VT → Value
 | .none => .agg #[]
 | .mk k b m s t a len cap _ => .agg #[.int .i64 k, .bool b, .int .i64 m, .int .i64 s, .string t, .slice a len cap]
def In (w : World) : VT → Prop
 | .none => False
 | .mk k _ m s t a len cap kid => ((Lit.int .i64 k).wf = true ∧ (Lit.int .i64 m).wf = true ∧ (Lit.int .i64 s).wf = true ∧ t.size ≤ maxLen ∧ len ≤ cap ∧ cap ≤ maxLen) ∧
   ∀ i, i < len → (∃ bl o, a = some ⟨bl, o, Option.none⟩ ∧ ∀ j, j < 6 → w.cell? ⟨bl, o + i * 6 + j, Option.none⟩ = (kid i).cells[j]?) ∧ (kid i).In w
theorem In.keep {w w' : World} (hh : ∀ bl o, bl < w.heap.size → w'.cell? ⟨bl, o, Option.none⟩ = w.cell? ⟨bl, o, Option.none⟩) (x : VT) (h : x.In w) : x.In w' := by
 induction x with
 | none => exact h
 | mk k b m s t a len cap kid ih =>
  refine ⟨h.1, fun i hi => ?_⟩
  obtain ⟨⟨bl, o, ha, hc⟩, hk⟩ := h.2 i hi
  refine ⟨⟨bl, o, ha, fun j hj => ?_⟩, ih i hk⟩
  have h0 := hc 0 (by omega)
  have hl : bl < w.heap.size := by
   cases hx : kid i with
   | none => rw [hx] at hk; exact absurd hk (by simp [In])
   | mk => rw [hx] at h0; exact World.block_lt_of_cell? _ _ h0
  rw [hh bl _ hl]
  exact hc j hj
theorem In.below {w w' : World} {x : VT} (h : x.In w) (b : Below w.heap.size w w') : x.In w' := h.keep (bcell b).1
def Six (w : World) (bl o : Nat) (k : Int) (b : Bool) (m s : Int) (t : ByteArray) (a : Option Addr) (len cap : Nat) : Prop :=
 bl < w.heap.size ∧ w.cell? ⟨bl, o, Option.none⟩ = some (.int .i64 k) ∧ w.cell? ⟨bl, o + 1, Option.none⟩ = some (.bool b) ∧ w.cell? ⟨bl, o + 2, Option.none⟩ = some (.int .i64 m) ∧ w.cell? ⟨bl, o + 3, Option.none⟩ = some (.int .i64 s) ∧ w.cell? ⟨bl, o + 4, Option.none⟩ = some (.string t) ∧ w.cell? ⟨bl, o + 5, Option.none⟩ = some (.slice a len cap)
theorem In.kid {w : World} {k : Int} {b : Bool} {m s : Int} {t : ByteArray} {a : Option Addr} {len cap : Nat} {kid : Nat → VT} (h : (VT.mk k b m s t a len cap kid).In w) {i : Nat} (hi : i < len) :
  ∃ bl o k' b' m' s' t' a' len' cap' kid', a = some ⟨bl, o, Option.none⟩ ∧ kid i = .mk k' b' m' s' t' a' len' cap' kid' ∧ Six w bl (o + i * 6) k' b' m' s' t' a' len' cap' ∧ (VT.mk k' b' m' s' t' a' len' cap' kid').In w := by
 obtain ⟨⟨bl, o, ha, hc⟩, hk⟩ := h.2 i hi
 cases hx : kid i with
 | none => rw [hx] at hk; exact absurd hk (by simp [In])
 | mk k' b' m' s' t' a' len' cap' kid' =>
  rw [hx] at hc hk
  have h0 := hc 0 (by omega)
  exact ⟨bl, o, k', b', m', s', t', a', len', cap', kid', ha, rfl, ⟨World.block_lt_of_cell? _ _ h0, h0, hc 1 (by omega), hc 2 (by omega), hc 3 (by omega), hc 4 (by omega), hc 5 (by omega)⟩, hk⟩
theorem Six.below {w w' : World} {bl o : Nat} {k : Int} {b : Bool} {m s : Int} {t : ByteArray} {a : Option Addr} {len cap : Nat} (h : Six w bl o k b m s t a len cap) (hb : Below w.heap.size w w') : Six w' bl o k b m s t a len cap := by
 obtain ⟨h0, h1, h2, h3, h4, h5, h6⟩ := h
 have hc := (bcell hb).1
 exact ⟨Nat.lt_of_lt_of_le h0 hb.size, (hc bl _ h0).trans h1, (hc bl _ h0).trans h2, (hc bl _ h0).trans h3, (hc bl _ h0).trans h4, (hc bl _ h0).trans h5, (hc bl _ h0).trans h6⟩
end VT
theorem cellsVal : Tryz.prog.cellsOf 32 = 6 := by kernel_rfl
theorem cellsD : Tryz.prog.cellsOf 23 = 2 := by kernel_rfl
theorem cellsI : Tryz.prog.cellsOf 3 = 1 := by kernel_rfl
theorem cellsB : Tryz.prog.cellsOf 4 = 1 := by kernel_rfl
theorem cellsS : Tryz.prog.cellsOf 9 = 1 := by kernel_rfl
theorem cellsL : Tryz.prog.cellsOf 30 = 1 := by kernel_rfl
section
variable {H : Type} {enc : TypeId × Value → H} {w : World} {base : Nat} {spare : Nat → Bool} {held : Bool}
set_option maxRecDepth 10000 in
theorem open_dec {fuel : Nat} {v0 v1 : Value} {x : DataW H × List MemPlace} (h : DataW.trod enc Tryz.prog w base spare held fuel 23 [v0, v1] = some x) :
  ∃ m s : Int, v0 = .int .i64 m ∧ v1 = .int .i64 s ∧ (Lit.int .i64 m).wf = true ∧ (Lit.int .i64 s).wf = true := by
 obtain ⟨xs, n, rfl, rfl, hl, hlen, hf⟩ := DataW.trod_struct Tryz.underlying23 h
 match xs, hlen with
 | [y0, y1], _ =>
  have g0 := hf 0 _ rfl
  have g1 := hf 1 _ rfl
  simp [cellsI] at g0 g1
  obtain ⟨m, e0, -, w0⟩ := DataW.trod_int Tryz.underlying3 g0
  obtain ⟨s, e1, -, w1⟩ := DataW.trod_int Tryz.underlying3 g1
  simp at e0 e1
  exact ⟨m, s, e0, e1, w0, w1⟩
set_option maxRecDepth 10000 in
theorem open_val (fuel : Nat) : ∀ {cs : List Value} {x : DataW H × List MemPlace}, DataW.trod enc Tryz.prog w base spare held fuel 32 cs = some x →
  ∃ T : VT, cs = T.cells ∧ T.In w := by
 induction fuel using Nat.strongRecOn with
 | _ fuel ih =>
  intro cs x h
  obtain ⟨xs, n, rfl, rfl, hl, hlen, hf⟩ := DataW.trod_struct Tryz.underlying32 h
  rw [cellsVal] at hl
  match xs, hlen, cs, hl with
  | [y0, y1, y2, y3, y4], _, [v0, v1, v2, v3, v4, v5], _ =>
   have g0 := hf 0 _ rfl
   have g1 := hf 1 _ rfl
   have g2 := hf 2 _ rfl
   have g3 := hf 3 _ rfl
   have g4 := hf 4 _ rfl
   simp [cellsI, cellsB, cellsD, cellsS, cellsL] at g0 g1 g2 g3 g4
   obtain ⟨k, e0, -, w0⟩ := DataW.trod_int Tryz.underlying3 g0
   obtain ⟨b, e1, -⟩ := DataW.trod_bool Tryz.underlying4 g1
   obtain ⟨m, s, rfl, rfl, w1, w2⟩ := open_dec g2
   obtain ⟨t, e3, -, w3⟩ := DataW.trod_string Tryz.underlying9 g3
   simp at e0 e1 e3
   subst e0 e1 e3
   rcases DataW.trod_slice Tryz.underlying30 g4 with ⟨e4, -⟩ | ⟨a, len, cap, elems, rest, n', hn, e4, -, hb, hlc, hcm, hel, hget, -, -⟩
   ·simp at e4
    subst e4
    exact ⟨.mk k b m s t Option.none 0 0 (fun _ => .none), rfl, ⟨w0, w1, w2, w3, Nat.le_refl _, Nat.zero_le _⟩, fun i hi => absurd hi (Nat.not_lt_zero _)⟩
   ·simp at e4
    subst e4
    rw [cellsVal] at hget
    have hspot : 0 < len → a.spot = Option.none := fun h0 => by
     have key := hget 0 h0
     rw [List.getElem?_eq_getElem (by omega)] at key
     obtain ⟨cs', h1, h2⟩ := Option.bind_eq_some_iff.1 key
     obtain ⟨T, rfl, hT⟩ := ih n' (by omega) h2
     obtain ⟨_, _, hcell⟩ := World.cells?_some h1
     have h0 := hcell 0 (by omega)
     cases T with
     | none => exact absurd hT (by simp [VT.In])
     | mk =>
      have h00 := World.cell?_spot h0
      simpa [Addr.add] using h00
    obtain ⟨kid, hkid⟩ := Deep.choose_lt (α := VT) (n := len) (p := fun i T => (∃ bl o, a = ⟨bl, o, Option.none⟩ ∧ ∀ j, j < 6 → w.cell? ⟨bl, o + i * 6 + j, Option.none⟩ = T.cells[j]?) ∧ T.In w) (fun i hi => by
     have key := hget i hi
     rw [List.getElem?_eq_getElem (by omega)] at key
     obtain ⟨cs', h1, h2⟩ := Option.bind_eq_some_iff.1 key
     obtain ⟨T, rfl, hT⟩ := ih n' (by omega) h2
     obtain ⟨_, _, hcell⟩ := World.cells?_some h1
     refine ⟨T, ?_, hT⟩
     obtain ⟨bl, o, spot⟩ := a
     have hsp : spot = Option.none := hspot (by omega)
     subst hsp
     refine ⟨bl, o, rfl, fun j hj => ?_⟩
     have := hcell j hj
     rwa [add_plain, add_plain] at this)
    refine ⟨.mk k b m s t (some a) len cap kid, rfl, ⟨w0, w1, w2, w3, hlc, hcm⟩, fun i hi => ?_⟩
    obtain ⟨⟨bl, o, ha, hc⟩, hk⟩ := hkid i hi
    exact ⟨⟨bl, o, by rw [ha], hc⟩, hk⟩
end
end
section
def okC (c : UInt8) : Bool := decide (32 ≤ (c.toNat : Int) ∧ (c.toNat : Int) ≤ 126 ∧ (c.toNat : Int) ≠ 34)
def textB (t : ByteArray) : Bool := decide (t.size ≤ 16) && t.data.toList.all okC
theorem okC_mk {c : UInt8} (h1 : 32 ≤ (c.toNat : Int)) (h2 : (c.toNat : Int) ≤ 126) (h3 : ¬ (c.toNat : Int) = 34) : okC c = true := decide_eq_true ⟨h1, h2, h3⟩
theorem okC_no {c : UInt8} (h : (c.toNat : Int) < 32 ∨ 126 < (c.toNat : Int) ∨ (c.toNat : Int) = 34) : okC c = false := decide_eq_false (by omega)
theorem take_snoc (s : ByteArray) (k : Nat) (h : k < s.size) : s.data.toList.take (k + 1) = s.data.toList.take k ++ [s[k]] := by
 rw [List.take_succ_eq_append_getElem (by simpa using h)]; rfl
theorem all_snoc {s : ByteArray} {k : Nat} (h : k < s.size) (h1 : (s.data.toList.take k).all okC = true) (h2 : okC s[k] = true) : (s.data.toList.take (k + 1)).all okC = true := by
 rw [take_snoc s k h, List.all_append, h1]; simp [h2]
theorem all_bad {s : ByteArray} {k : Nat} (h : k < s.size) (h2 : okC s[k] = false) : s.data.toList.all okC = false := by
 rw [Bool.eq_false_iff]
 intro h3
 rw [List.all_eq_true] at h3
 have := h3 s[k] (by rw [show s[k] = s.data.toList[k]'(by simpa using h) from rfl]; exact List.getElem_mem _)
 rw [h2] at this; cases this
theorem all_full {s : ByteArray} {k : Nat} (h : ¬ k < s.size) (h1 : (s.data.toList.take k).all okC = true) : s.data.toList.all okC = true := by
 rwa [List.take_of_length_le (by simp; omega)] at h1
theorem len0 (n : Nat) : ((n : Int) == 0) = decide (n = 0) := by
 by_cases h : n = 0
 ·subst h; rfl
 ·simp [h]
theorem bytes_ext {t t' : ByteArray} (h : t.toList = t'.toList) : t = t' := by
 rw [ByteArray.toList_eq, ByteArray.toList_eq] at h
 cases t; cases t'
 congr 1
 exact Array.toList_inj.1 h
def aloneB (k : Int) (b : Bool) (m s : Int) (t : ByteArray) (len : Nat) : Bool :=
 (decide (k = 1) || !b) && ((decide (k = 2) || (decide (m = 0) && decide (s = 0))) && ((decide (k = 3) || decide (t.toList = [])) && (decide (k = 4) || decide (len = 0))))
def VT.okB : VT → Nat → Bool
 | .none, _ => false
 | .mk k b m s t _ len _ kid, n => aloneB k b m s t len &&
   (if k = 0 ∨ k = 1 then true else if k = 2 then isB m s else if k = 3 then textB t else if k = 4 then decide (n ≠ 0) && (decide (len ≤ 8) && (List.range len).all fun i => (kid i).okB (n - 1)) else false)
theorem alone_t {k : Int} {b : Bool} {m s : Int} {t : ByteArray} {len : Nat} (h : aloneB k b m s t len = true) :
  (k ≠ 1 → b = false) ∧ (k ≠ 2 → m = 0 ∧ s = 0) ∧ (k ≠ 3 → t.toList = []) ∧ (k ≠ 4 → len = 0) := by
 simp only [aloneB, Bool.and_eq_true, Bool.or_eq_true, decide_eq_true_eq, Bool.not_eq_true'] at h
 obtain ⟨h1, h2, h3, h4⟩ := h
 exact ⟨fun e => h1.resolve_left e, fun e => h2.resolve_left e, fun e => h3.resolve_left e, fun e => h4.resolve_left e⟩
theorem alone_f {k : Int} {b : Bool} {m s : Int} {t : ByteArray} {len : Nat} (h : aloneB k b m s t len = false) :
  (k ≠ 1 ∧ b = true) ∨ (k ≠ 2 ∧ (m ≠ 0 ∨ s ≠ 0)) ∨ (k ≠ 3 ∧ ¬ t.toList = []) ∨ (k ≠ 4 ∧ len ≠ 0) := by
 apply Classical.byContradiction
 intro hn
 have hn := not_or.1 hn
 have ⟨n1, hn⟩ := hn
 have hn := not_or.1 hn
 have ⟨n2, hn⟩ := hn
 have ⟨n3, n4⟩ := not_or.1 hn
 rw [Bool.eq_false_iff] at h
 apply h
 simp only [aloneB, Bool.and_eq_true, Bool.or_eq_true, decide_eq_true_eq, Bool.not_eq_true']
 refine ⟨?_, ?_, ?_, ?_⟩
 ·by_cases e : k = 1
  ·exact Or.inl e
  ·cases b
   ·exact Or.inr rfl
   ·exact absurd ⟨e, rfl⟩ n1
 ·by_cases e : k = 2
  ·exact Or.inl e
  ·exact Or.inr (by omega)
 ·by_cases e : k = 3
  ·exact Or.inl e
  ·refine Or.inr (Classical.byContradiction fun hc => n3 ⟨e, hc⟩)
 ·by_cases e : k = 4
  ·exact Or.inl e
  ·exact Or.inr (by omega)
theorem all_range {n : Nat} {f : Nat → Bool} (h : ∀ i, i < n → f i = true) : (List.range n).all f = true := by
 rw [List.all_eq_true]; exact fun i hi => h i (List.mem_range.1 hi)
theorem all_range_no {n i : Nat} {f : Nat → Bool} (hi : i < n) (h : f i = false) : (List.range n).all f = false := by
 rw [Bool.eq_false_iff]
 intro h2
 rw [List.all_eq_true] at h2
 have := h2 i (List.mem_range.2 hi)
 rw [h] at this; cases this
theorem all_range_get {n i : Nat} {f : Nat → Bool} (h : (List.range n).all f = true) (hi : i < n) : f i = true := (List.all_eq_true.1 h) i (List.mem_range.2 hi)
end
section
theorem keep_call {V x y : World} {p : Prop} (h : Below V.heap.size V x ∧ p) (k : Below x.heap.size x y) : Below V.heap.size V y := bstep h.1 k
theorem keep_alloc {V x : World} {p : Prop} (h : Below V.heap.size V x ∧ p) (o : Obj) : Below V.heap.size V (x.alloc o) := h.1.alloc h.1.size o
theorem kcell {x y : World} (k : Below x.heap.size x y) {b o : Nat} {v : Value} (h : b < x.heap.size) (hc : x.cell? ⟨b, o, none⟩ = some v) : y.cell? ⟨b, o, none⟩ = some v := ((bcell k).1 b o h).trans hc
theorem kfroz {x y : World} (k : Below x.heap.size x y) {b o : Nat} (h : b < x.heap.size) (hc : x.frozen? ⟨b, o, none⟩ = false) : y.frozen? ⟨b, o, none⟩ = false := ((bcell k).2 b o h).trans hc
def Has (V : World) (b : Nat) (m s : Int) : Prop := b < V.heap.size ∧ V.cell? ⟨b, 0, none⟩ = some (.int .i64 m) ∧ V.cell? ⟨b, 1, none⟩ = some (.int .i64 s)
theorem Has.call {V x : World} {b : Nat} {m s : Int} (h : Has V b m s) (k : Below V.heap.size V x) : Has x b m s := ⟨Nat.lt_of_lt_of_le h.1 k.size, kcell k h.1 h.2.1, kcell k h.1 h.2.2⟩
theorem Has.put {V : World} {b : Nat} {m s : Int} (h : Has V b m s) (o : Obj) : Has (V.alloc o) b m s := by
 obtain ⟨h1, h2, h3⟩ := h
 exact ⟨by simp; omega, by go_simp, by go_simp⟩
theorem Has.new (V : World) (m s : Int) (t : TypeId) : Has (V.alloc (Obj.cells #[.int .i64 m, .int .i64 s] t)) V.heap.size m s := ⟨by simp, by go_simp, by go_simp⟩
end
section
attribute [local go_sem ↓] Go.wp_at_zero Go.wp_at_succ
def VT.same : VT → VT → Bool
 | .mk k b m s t _ len _ kid, .mk k' b' m' s' t' _ len' _ kid' => decide (k = k') && (decide (b = b') && (decide (m = m') && (decide (s = s') && (decide (t = t') && (decide (len = len') && (List.range len).all fun i => (kid i).same (kid' i))))))
 | _, _ => false
theorem same_any (x : VT) : ∀ (y : VT) (w : World), x.In w → y.In w →
  Calls Tryz.prog 13 #[x.val, y.val] w fun e w' => e = .returned (.bool (x.same y)) ∧ Below w.heap.size w w' := by
 induction x with
 | none => intro y w h; exact absurd h (by simp [VT.In])
 | mk k b m s t a len cap kid ih =>
  intro y w hin hin'
  cases y with
  | none => exact absurd hin' (by simp [VT.In])
  | mk k' b' m' s' t' a' len' cap' kid' =>
   obtain ⟨wk, wm, ws, ht, hlc, hcm⟩ := hin.1
   have hlm : len ≤ maxLen := by omega
   unfold maxLen at hlm
   clear wk wm ws ht hlc hcm
   show Calls Tryz.prog 13 #[.agg #[.int .i64 k, .bool b, .int .i64 m, .int .i64 s, .string t, .slice a len cap], .agg #[.int .i64 k', .bool b', .int .i64 m', .int .i64 s', .string t', .slice a' len' cap']] w _
   unfold VT.same
   by_cases hk : k = k'
   ·subst hk
    by_cases hb : b = b'
    ·subst hb
     by_cases hm : m = m'
     ·subst hm
      by_cases hs : s = s'
      ·subst hs
       by_cases ht : t.toList = t'.toList
       ·obtain rfl := bytes_ext ht
        clear ht
        by_cases hl : len = len'
        ·subst hl
         simp only [decide_true, Bool.true_and]
         go_enter Tryz.func13, Tryz.ntmps13
         go_wp2_with fail
         have b0 := below2 w (Obj.cells #[.int .i64 k, .bool b, .int .i64 m, .int .i64 s, .string t, .slice a len cap] 32) (Obj.cells #[.int .i64 k, .bool b, .int .i64 m, .int .i64 s, .string t, .slice a' len cap'] 32)
         have hin1 := hin.below b0
         have hin1' := hin'.below b0
         have hz : w.heap.size + 1 < ((w.alloc (Obj.cells #[.int .i64 k, .bool b, .int .i64 m, .int .i64 s, .string t, .slice a len cap] 32)).alloc (Obj.cells #[.int .i64 k, .bool b, .int .i64 m, .int .i64 s, .string t, .slice a' len cap'] 32)).heap.size := by simp
         have hbox : ((w.alloc (Obj.cells #[.int .i64 k, .bool b, .int .i64 m, .int .i64 s, .string t, .slice a len cap] 32)).alloc (Obj.cells #[.int .i64 k, .bool b, .int .i64 m, .int .i64 s, .string t, .slice a' len cap'] 32)).cell? ⟨w.heap.size, 5, none⟩ = some (.slice a len cap) := by go_simp
         have hbox' : ((w.alloc (Obj.cells #[.int .i64 k, .bool b, .int .i64 m, .int .i64 s, .string t, .slice a len cap] 32)).alloc (Obj.cells #[.int .i64 k, .bool b, .int .i64 m, .int .i64 s, .string t, .slice a' len cap'] 32)).cell? ⟨w.heap.size + 1, 5, none⟩ = some (.slice a' len cap') := by go_simp
         generalize hW : ((w.alloc (Obj.cells #[.int .i64 k, .bool b, .int .i64 m, .int .i64 s, .string t, .slice a len cap] 32)).alloc (Obj.cells #[.int .i64 k, .bool b, .int .i64 m, .int .i64 s, .string t, .slice a' len cap'] 32)) = W at *
         clear hW hin hin'
         have B0 := hide b0
         clear b0
         generalize hB : w.heap.size = B at *
         have HB := hide hB
         clear hB
         go_loopw [5] (fun i wr => ∃ (j : Nat), j ≤ len ∧ i = .int .i64 j ∧ Hid (∀ i, i < j → (kid i).same (kid' i) = true) ∧ Below W.heap.size W wr) (fun i _ => len - (intOf i).toNat)
         case atStart => exact ⟨0, Nat.zero_le _, rfl, hide (fun i hi => absurd hi (Nat.not_lt_zero _)), Below.refl _ _⟩
         case round =>
          obtain ⟨j, hj, rfl, HA, bel⟩ := hrel
          have zz := bel.size
          have hb := ((bcell bel).1 B 5 (by omega)).trans hbox
          have hb' := ((bcell bel).1 (B + 1) 5 (by omega)).trans hbox'
          by_cases hlt : j < len
          ·obtain ⟨bl, o, kp, bp, mp, sp, tp, ap, lenp, capp, kidp, rfl, hx, six, hk⟩ := hin1.kid hlt
           obtain ⟨bl', o', kq, bq, mq, sq, tq, aq, lenq, capq, kidq, rfl, hy, six', hk'⟩ := hin1'.kid hlt
           have ihj := ih j (kid' j)
           rw [hx, hy] at ihj
           obtain ⟨s0, s1, s2, s3, s4, s5, s6⟩ := six.below bel
           obtain ⟨r0, r1, r2, r3, r4, r5, r6⟩ := six'.below bel
           have HK := hide (hk.below bel)
           have HK' := hide (hk'.below bel)
           have IH := hide ihj
           have HX := hide hx
           have HY := hide hy
           clear six six' hk hk' ih ihj hin1 hin1' hx hy
           have S0 : Hid (Below wr.heap.size wr wr.drew ∧ wr.drew.cell? ⟨B, 5, none⟩ = some (.slice (some ⟨bl, o, none⟩) len cap) ∧ wr.drew.cell? ⟨B + 1, 5, none⟩ = some (.slice (some ⟨bl', o', none⟩) len cap') ∧ wr.drew.cell? ⟨bl, o + j * 6, none⟩ = some (.int .i64 kp) ∧ wr.drew.cell? ⟨bl, o + j * 6 + 1, none⟩ = some (.bool bp) ∧ wr.drew.cell? ⟨bl, o + j * 6 + 2, none⟩ = some (.int .i64 mp) ∧ wr.drew.cell? ⟨bl, o + j * 6 + 3, none⟩ = some (.int .i64 sp) ∧ wr.drew.cell? ⟨bl, o + j * 6 + 4, none⟩ = some (.string tp) ∧ wr.drew.cell? ⟨bl, o + j * 6 + 5, none⟩ = some (.slice ap lenp capp) ∧ wr.drew.cell? ⟨bl', o' + j * 6, none⟩ = some (.int .i64 kq) ∧ wr.drew.cell? ⟨bl', o' + j * 6 + 1, none⟩ = some (.bool bq) ∧ wr.drew.cell? ⟨bl', o' + j * 6 + 2, none⟩ = some (.int .i64 mq) ∧ wr.drew.cell? ⟨bl', o' + j * 6 + 3, none⟩ = some (.int .i64 sq) ∧ wr.drew.cell? ⟨bl', o' + j * 6 + 4, none⟩ = some (.string tq) ∧ wr.drew.cell? ⟨bl', o' + j * 6 + 5, none⟩ = some (.slice aq lenq capq)) := ⟨(Below.refl _ _).drew, hb, hb', s1, s2, s3, s4, s5, s6, r1, r2, r3, r4, r5, r6⟩
           have SK : Hid (∀ x w', (Below wr.heap.size wr x ∧ x.cell? ⟨B, 5, none⟩ = some (.slice (some ⟨bl, o, none⟩) len cap) ∧ x.cell? ⟨B + 1, 5, none⟩ = some (.slice (some ⟨bl', o', none⟩) len cap') ∧ x.cell? ⟨bl, o + j * 6, none⟩ = some (.int .i64 kp) ∧ x.cell? ⟨bl, o + j * 6 + 1, none⟩ = some (.bool bp) ∧ x.cell? ⟨bl, o + j * 6 + 2, none⟩ = some (.int .i64 mp) ∧ x.cell? ⟨bl, o + j * 6 + 3, none⟩ = some (.int .i64 sp) ∧ x.cell? ⟨bl, o + j * 6 + 4, none⟩ = some (.string tp) ∧ x.cell? ⟨bl, o + j * 6 + 5, none⟩ = some (.slice ap lenp capp) ∧ x.cell? ⟨bl', o' + j * 6, none⟩ = some (.int .i64 kq) ∧ x.cell? ⟨bl', o' + j * 6 + 1, none⟩ = some (.bool bq) ∧ x.cell? ⟨bl', o' + j * 6 + 2, none⟩ = some (.int .i64 mq) ∧ x.cell? ⟨bl', o' + j * 6 + 3, none⟩ = some (.int .i64 sq) ∧ x.cell? ⟨bl', o' + j * 6 + 4, none⟩ = some (.string tq) ∧ x.cell? ⟨bl', o' + j * 6 + 5, none⟩ = some (.slice aq lenq capq)) → Below x.heap.size x w' → (Below wr.heap.size wr w' ∧ w'.cell? ⟨B, 5, none⟩ = some (.slice (some ⟨bl, o, none⟩) len cap) ∧ w'.cell? ⟨B + 1, 5, none⟩ = some (.slice (some ⟨bl', o', none⟩) len cap') ∧ w'.cell? ⟨bl, o + j * 6, none⟩ = some (.int .i64 kp) ∧ w'.cell? ⟨bl, o + j * 6 + 1, none⟩ = some (.bool bp) ∧ w'.cell? ⟨bl, o + j * 6 + 2, none⟩ = some (.int .i64 mp) ∧ w'.cell? ⟨bl, o + j * 6 + 3, none⟩ = some (.int .i64 sp) ∧ w'.cell? ⟨bl, o + j * 6 + 4, none⟩ = some (.string tp) ∧ w'.cell? ⟨bl, o + j * 6 + 5, none⟩ = some (.slice ap lenp capp) ∧ w'.cell? ⟨bl', o' + j * 6, none⟩ = some (.int .i64 kq) ∧ w'.cell? ⟨bl', o' + j * 6 + 1, none⟩ = some (.bool bq) ∧ w'.cell? ⟨bl', o' + j * 6 + 2, none⟩ = some (.int .i64 mq) ∧ w'.cell? ⟨bl', o' + j * 6 + 3, none⟩ = some (.int .i64 sq) ∧ w'.cell? ⟨bl', o' + j * 6 + 4, none⟩ = some (.string tq) ∧ w'.cell? ⟨bl', o' + j * 6 + 5, none⟩ = some (.slice aq lenq capq))) := by
            rintro x w' ⟨h0, h1, h2, h3, h4, h5, h6, h7, h8, h9, h10, h11, h12, h13, h14⟩ kk
            have z0 := h0.size
            exact ⟨bstep h0 kk, kcell kk (by omega) h1, kcell kk (by omega) h2, kcell kk (by omega) h3, kcell kk (by omega) h4, kcell kk (by omega) h5, kcell kk (by omega) h6, kcell kk (by omega) h7, kcell kk (by omega) h8, kcell kk (by omega) h9, kcell kk (by omega) h10, kcell kk (by omega) h11, kcell kk (by omega) h12, kcell kk (by omega) h13, kcell kk (by omega) h14⟩
           cases hok : (kid j).same (kid' j)
           ·have FIN := hide (all_range_no (n := len) (f := fun i => (kid i).same (kid' i)) hlt hok)
            rw [unhide HX, unhide HY] at hok
            have HOK := hide hok
            clear hok
            go_wp2_with fail
            go_region_held3 (fun w' => Below wr.heap.size wr w' ∧ w'.cell? ⟨B, 5, none⟩ = some (.slice (some ⟨bl, o, none⟩) len cap) ∧ w'.cell? ⟨B + 1, 5, none⟩ = some (.slice (some ⟨bl', o', none⟩) len cap') ∧ w'.cell? ⟨bl, o + j * 6, none⟩ = some (.int .i64 kp) ∧ w'.cell? ⟨bl, o + j * 6 + 1, none⟩ = some (.bool bp) ∧ w'.cell? ⟨bl, o + j * 6 + 2, none⟩ = some (.int .i64 mp) ∧ w'.cell? ⟨bl, o + j * 6 + 3, none⟩ = some (.int .i64 sp) ∧ w'.cell? ⟨bl, o + j * 6 + 4, none⟩ = some (.string tp) ∧ w'.cell? ⟨bl, o + j * 6 + 5, none⟩ = some (.slice ap lenp capp) ∧ w'.cell? ⟨bl', o' + j * 6, none⟩ = some (.int .i64 kq) ∧ w'.cell? ⟨bl', o' + j * 6 + 1, none⟩ = some (.bool bq) ∧ w'.cell? ⟨bl', o' + j * 6 + 2, none⟩ = some (.int .i64 mq) ∧ w'.cell? ⟨bl', o' + j * 6 + 3, none⟩ = some (.int .i64 sq) ∧ w'.cell? ⟨bl', o' + j * 6 + 4, none⟩ = some (.string tq) ∧ w'.cell? ⟨bl', o' + j * 6 + 5, none⟩ = some (.slice aq lenq capq))
             (first | exact unhide S0 | assumption | exact unhide SK _ _ (by assumption) k4)
             ((go_at_call 13; refine (unhide IH _ ?_ ?_).mono ?_; exact (unhide HK).below (And.left (by assumption)); exact (unhide HK').below (And.left (by assumption)); rintro e w4 ⟨rfl, k4⟩; rw [unhide HOK]))
            all_goals
             go_wp2_with fail
             go_ret
             refine ⟨ret_bool (unhide FIN).symm, ?_⟩
             have b := unhide B0
             rw [← unhide HB] at b
             exact bstep b (bstep bel (And.left (by assumption)))
           ·have HN := hide hok
            rw [unhide HX, unhide HY] at hok
            have HOK := hide hok
            clear hok
            go_wp2_with fail
            go_region_held3 (fun w' => Below wr.heap.size wr w' ∧ w'.cell? ⟨B, 5, none⟩ = some (.slice (some ⟨bl, o, none⟩) len cap) ∧ w'.cell? ⟨B + 1, 5, none⟩ = some (.slice (some ⟨bl', o', none⟩) len cap') ∧ w'.cell? ⟨bl, o + j * 6, none⟩ = some (.int .i64 kp) ∧ w'.cell? ⟨bl, o + j * 6 + 1, none⟩ = some (.bool bp) ∧ w'.cell? ⟨bl, o + j * 6 + 2, none⟩ = some (.int .i64 mp) ∧ w'.cell? ⟨bl, o + j * 6 + 3, none⟩ = some (.int .i64 sp) ∧ w'.cell? ⟨bl, o + j * 6 + 4, none⟩ = some (.string tp) ∧ w'.cell? ⟨bl, o + j * 6 + 5, none⟩ = some (.slice ap lenp capp) ∧ w'.cell? ⟨bl', o' + j * 6, none⟩ = some (.int .i64 kq) ∧ w'.cell? ⟨bl', o' + j * 6 + 1, none⟩ = some (.bool bq) ∧ w'.cell? ⟨bl', o' + j * 6 + 2, none⟩ = some (.int .i64 mq) ∧ w'.cell? ⟨bl', o' + j * 6 + 3, none⟩ = some (.int .i64 sq) ∧ w'.cell? ⟨bl', o' + j * 6 + 4, none⟩ = some (.string tq) ∧ w'.cell? ⟨bl', o' + j * 6 + 5, none⟩ = some (.slice aq lenq capq))
             (first | exact unhide S0 | assumption | exact unhide SK _ _ (by assumption) k4)
             ((go_at_call 13; refine (unhide IH _ ?_ ?_).mono ?_; exact (unhide HK).below (And.left (by assumption)); exact (unhide HK').below (And.left (by assumption)); rintro e w4 ⟨rfl, k4⟩; rw [unhide HOK]))
            all_goals
             go_wp2_with fail
             go_roundw
             case rel =>
              refine ⟨j + 1, by omega, by go_num, hide (fun i hi => ?_), bstep bel (And.left (by assumption))⟩
              by_cases hij : i = j
              ·subst hij; exact unhide HN
              ·exact unhide HA i (by omega)
             case measure => simp [intOf]; omega
          ·have FIN := hide (all_range (n := len) (f := fun i => (kid i).same (kid' i)) (fun i hi => unhide HA i (by omega)))
           go_wp2_with fail
           go_ret
           refine ⟨ret_bool (unhide FIN).symm, ?_⟩
           have b := unhide B0
           rw [← unhide HB] at b
           exact bstep b bel
        ·have hl' := hide hl
         clear ih hin hin'
         have e1 : ((len : Int) != len') = true := by simp; omega
         clear hl
         go_enter Tryz.func13, Tryz.ntmps13
         go_wp2_with fail
         go_ret
         exact ⟨ret_bool (by have := unhide hl'; simp [this]), below2 _ _ _⟩
       ·have ht' := hide ht
        clear ih hin hin'
        go_enter Tryz.func13, Tryz.ntmps13
        go_wp2_with fail
        go_ret
        exact ⟨ret_bool (by simp [show ¬ t = t' from fun e => unhide ht' (by rw [e])]), below2 _ _ _⟩
      ·have hs' := hide hs
       clear ih hin hin'
       go_enter Tryz.func13, Tryz.ntmps13
       go_wp2_with fail
       go_ret
       exact ⟨ret_bool (by have := unhide hs'; simp [this]), below2 _ _ _⟩
     ·have hm' := hide hm
      clear ih hin hin'
      go_enter Tryz.func13, Tryz.ntmps13
      go_wp2_with fail
      go_ret
      exact ⟨ret_bool (by have := unhide hm'; simp [this]), below2 _ _ _⟩
    ·have hb' := hide hb
     clear ih hin hin'
     have e1 : (b != b') = true := by simpa using hb
     go_enter Tryz.func13, Tryz.ntmps13
     go_wp2_with fail
     go_ret
     exact ⟨ret_bool (by have := unhide hb'; simp [this]), below2 _ _ _⟩
   ·have hk' := hide hk
    clear ih hin hin'
    have e1 : (k != k') = true := by simpa using hk
    clear hk
    go_enter Tryz.func13, Tryz.ntmps13
    go_wp2_with fail
    go_ret
    exact ⟨ret_bool (by have := unhide hk'; simp [this]), below2 _ _ _⟩
end
section
theorem trim_is (t : Nat) : ∀ m : Int, okM m = true → okM (trimM m t) = true ∧ trimS m t ≤ t ∧ (trimS m t = 0 ∨ trimM m t % 10 ≠ 0) := by
 induction t with
 | zero => intro m h; exact ⟨h, Nat.le_refl _, Or.inl rfl⟩
 | succ t ih =>
  intro m h
  unfold trimM trimS
  by_cases h10 : m % 10 = 0
  ·rw [if_pos h10, if_pos h10]
   have := ih (m / 10) (by rw [okM_iff] at *; omega)
   exact ⟨this.1, by omega, this.2.2⟩
  ·rw [if_neg h10, if_neg h10]
   exact ⟨h, Nat.le_refl _, Or.inr h10⟩
theorem isB_mk (m : Int) (s : Nat) (h : okM m = true) (h4 : s ≤ 4) (h0 : s = 0 ∨ m % 10 ≠ 0) : isB m s = true := by
 unfold isB
 rw [h]
 simp
 rcases h0 with h0 | h0
 ·exact ⟨by omega, Or.inl h0⟩
 ·exact ⟨by omega, Or.inr h0⟩
theorem fitT_is (m : Int) (s : Nat) : ∀ t, t ≤ 5 → fitTE m s t = 0 → isB (fitTM m s t) (fitTS m s t : Nat) = true := by
 intro t
 induction t with
 | zero => intro _ h; have h : (3 : Int) = 0 := h; omega
 | succ t ih =>
  intro ht h
  unfold fitTE at h
  unfold fitTM fitTS
  by_cases hok : okM (half m (p10 (s - t))) = true
  ·rw [if_pos hok, if_pos hok]
   have := trim_is t _ hok
   exact isB_mk _ _ this.1 (by omega) this.2.2
  ·rw [if_neg hok] at h ⊢
   rw [if_neg hok]
   exact ih (by omega) h
theorem fit_is (m s : Int) (h : fitE m s = 0) : isB (fitM m s) (fitS m s) = true := by
 unfold fitE at h
 unfold fitM fitS
 by_cases ha : argB m s = true
 ·rw [if_pos ha] at h; exact absurd h (by decide)
 ·rw [if_neg ha] at h ⊢
  rw [if_neg ha]
  exact fitT_is m _ _ (by omega) h
end
section
end
section
theorem half_exact (y d : Int) (hd : 1 ≤ d) : half (y * d) d = y := by
 unfold half
 have h1 : y * d % d = 0 := Int.mul_emod_left y d
 have h2 : y * d / d = y := Int.mul_ediv_cancel y (by omega)
 rw [h1, h2, if_neg (by omega)]
end
section
theorem half_scale (x y c : Int) (hc : 1 ≤ c) : half (x * c) (y * c) = half x y := by
 unfold half
 have h1 : x * c / (y * c) = x / y := by rw [Int.mul_comm x c, Int.mul_comm y c]; exact Int.mul_ediv_mul_of_pos _ _ (show 0 < c by omega)
 have h2 : x * c % (y * c) = x % y * c := by rw [Int.mul_comm x c, Int.mul_comm y c, Int.mul_comm (x % y) c]; exact Int.mul_emod_mul_of_pos _ _ (show 0 < c by omega)
 rw [h1, h2]
 generalize x % y = r
 generalize x / y = q
 have e1 : 2 * (r * c) = 2 * r * c := by rw [Int.mul_assoc]
 have a1 : (y * c < 2 * (r * c)) ↔ (y < 2 * r) := by
  rw [e1]
  constructor
  ·intro h; exact Int.lt_of_mul_lt_mul_right h (by omega)
  ·intro h; exact Int.mul_lt_mul_of_pos_right h (by omega)
 have a2 : (2 * (r * c) = y * c) ↔ (2 * r = y) := by
  rw [e1]
  constructor
  ·intro h; exact Int.eq_of_mul_eq_mul_right (by omega) h
  ·intro h; rw [h]
 simp only [a1, a2]
theorem trim_scale (x : Int) (z : Nat) : ∀ j, trimM (x * p10 j) (z + j) = trimM x z ∧ trimS (x * p10 j) (z + j) = trimS x z := by
 intro j
 induction j with
 | zero => rw [show x * p10 0 = x by show x * 1 = x; omega]; exact ⟨rfl, rfl⟩
 | succ j ih =>
  have e : x * p10 (j + 1) = x * p10 j * 10 := by rw [p10_succ, Int.mul_assoc]
  rw [e, show z + (j + 1) = (z + j) + 1 by omega]
  have t1 : trimM (x * p10 j * 10) (z + j + 1) = trimM (x * p10 j * 10 / 10) (z + j) := if_pos (by omega)
  have t2 : trimS (x * p10 j * 10) (z + j + 1) = trimS (x * p10 j * 10 / 10) (z + j) := if_pos (by omega)
  rw [t1, t2, show x * p10 j * 10 / 10 = x * p10 j by omega]
  exact ih
theorem fitT_low (x : Int) (z k : Nat) : ∀ t, t ≤ z + 1 →
  fitTM (x * p10 k) (z + k) t = fitTM x z t ∧ fitTS (x * p10 k) (z + k) t = fitTS x z t ∧ fitTE (x * p10 k) (z + k) t = fitTE x z t := by
 intro t
 induction t with
 | zero => intro _; exact ⟨rfl, rfl, rfl⟩
 | succ t ih =>
  intro ht
  have := ih (by omega)
  have h : half (x * p10 k) (p10 (z + k - t)) = half x (p10 (z - t)) := by
   rw [show z + k - t = (z - t) + k by omega, p10_add, half_scale _ _ _ (p10_pos _)]
  unfold fitTM fitTS fitTE
  rw [h]
  split
  ·exact ⟨rfl, rfl, rfl⟩
  ·exact this
theorem okM_down (x : Int) (j : Nat) (h : okM (x * p10 j) = true) : okM x = true := by
 rw [okM_iff] at *
 have p := p10_pos j
 have h1 : x * p10 j ≥ x ∨ x < 0 := by
  by_cases h0 : 0 ≤ x
  ·have := Int.mul_le_mul_of_nonneg_left p h0; omega
  ·omega
 have h2 : x * p10 j ≤ x ∨ 0 < x := by
  by_cases h0 : 0 ≤ -x
  ·have := Int.mul_le_mul_of_nonneg_left p h0; simp only [Int.neg_mul] at this; omega
  ·omega
 omega
theorem fitT_scale (x : Int) (z k : Nat) : ∀ j, j ≤ k →
  fitTM (x * p10 k) (z + k) (z + j + 1) = fitTM x z (z + 1) ∧ fitTS (x * p10 k) (z + k) (z + j + 1) = fitTS x z (z + 1) ∧ fitTE (x * p10 k) (z + k) (z + j + 1) = fitTE x z (z + 1) := by
 intro j
 induction j with
 | zero => intro _; exact fitT_low x z k (z + 1) (by omega)
 | succ j ih =>
  intro hj
  have := ih (by omega)
  have h : half (x * p10 k) (p10 (z + k - (z + (j + 1)))) = x * p10 (j + 1) := by
   have e : p10 k = p10 (j + 1) * p10 (z + k - (z + (j + 1))) := by rw [← p10_add]; congr 1; omega
   rw [e, ← Int.mul_assoc, half_exact _ _ (p10_pos _)]
  by_cases hk : okM (x * p10 (j + 1)) = true
  ·have hx := okM_down x (j + 1) hk
   have h0 : half x (p10 (z - z)) = x := by rw [Nat.sub_self]; exact half_one x
   have ht := trim_scale x z (j + 1)
   have l1 : fitTM (x * p10 k) (z + k) (z + (j + 1) + 1) = trimM (x * p10 (j + 1)) (z + (j + 1)) := by
    conv => lhs; unfold fitTM
    rw [h, if_pos hk]
   have l2 : fitTS (x * p10 k) (z + k) (z + (j + 1) + 1) = trimS (x * p10 (j + 1)) (z + (j + 1)) := by
    conv => lhs; unfold fitTS
    rw [h, if_pos hk]
   have l3 : fitTE (x * p10 k) (z + k) (z + (j + 1) + 1) = 0 := by
    conv => lhs; unfold fitTE
    rw [h, if_pos hk]
   have r1 : fitTM x z (z + 1) = trimM x z := by unfold fitTM; rw [h0, if_pos hx]
   have r2 : fitTS x z (z + 1) = trimS x z := by unfold fitTS; rw [h0, if_pos hx]
   have r3 : fitTE x z (z + 1) = 0 := by unfold fitTE; rw [h0, if_pos hx]
   rw [l1, l2, l3, r1, r2, r3]
   exact ⟨ht.1, ht.2, rfl⟩
  ·have l1 : fitTM (x * p10 k) (z + k) (z + (j + 1) + 1) = fitTM (x * p10 k) (z + k) (z + j + 1) := by
    conv => lhs; unfold fitTM
    rw [h, if_neg hk]; rfl
   have l2 : fitTS (x * p10 k) (z + k) (z + (j + 1) + 1) = fitTS (x * p10 k) (z + k) (z + j + 1) := by
    conv => lhs; unfold fitTS
    rw [h, if_neg hk]; rfl
   have l3 : fitTE (x * p10 k) (z + k) (z + (j + 1) + 1) = fitTE (x * p10 k) (z + k) (z + j + 1) := by
    conv => lhs; unfold fitTE
    rw [h, if_neg hk]; rfl
   rw [l1, l2, l3]
   exact this
theorem fit_scale (x z : Int) (z1 : 0 ≤ z) (z2 : z ≤ 4) (x2 : x ≤ 1000000000000000000) (x3 : -1000000000000000000 ≤ x * p10 (4 - z).toNat) (x4 : x * p10 (4 - z).toNat ≤ 1000000000000000000) (x5 : -1000000000000000000 ≤ x) :
  fitM (x * p10 (4 - z).toNat) 4 = fitM x z ∧ fitS (x * p10 (4 - z).toNat) 4 = fitS x z ∧ fitE (x * p10 (4 - z).toNat) 4 = fitE x z := by
 have a1 : argB (x * p10 (4 - z).toNat) 4 = false := by unfold argB; simp only [decide_eq_false_iff_not]; omega
 have a2 : argB x z = false := by unfold argB; simp only [decide_eq_false_iff_not]; omega
 have h := fitT_scale x z.toNat (4 - z).toNat (4 - z).toNat (Nat.le_refl _)
 rw [show z.toNat + (4 - z).toNat = 4 by omega] at h
 have e4 : (4 : Int).toNat = 4 := rfl
 have em : min 4 4 + 1 = 4 + 1 := rfl
 have ez : min z.toNat 4 + 1 = z.toNat + 1 := by omega
 unfold fitM fitS fitE
 simp only [a1, a2, Bool.false_eq_true, if_false, e4, em, ez]
 generalize x * p10 (4 - z).toNat = y at *
 exact ⟨h.1, by rw [h.2.1], h.2.2⟩
theorem up_scale (m s z : Int) (h1 : s ≤ z) (h2 : z ≤ 4) : upM m s 4 = upM m s z * p10 (4 - z).toNat := by
 unfold upM
 rw [Int.mul_assoc, ← p10_add]
 congr 2
 omega
theorem cmp_scale (x y c : Int) (hc : 1 ≤ c) : cmpI (x * c) (y * c) = cmpI x y := by
 unfold cmpI
 have a1 : (x * c < y * c) ↔ (x < y) := ⟨fun h => Int.lt_of_mul_lt_mul_right h (by omega), fun h => Int.mul_lt_mul_of_pos_right h (by omega)⟩
 have a2 : (y * c < x * c) ↔ (y < x) := ⟨fun h => Int.lt_of_mul_lt_mul_right h (by omega), fun h => Int.mul_lt_mul_of_pos_right h (by omega)⟩
 rw [ite_congr (propext a1) (fun _ => rfl) (fun _ => ite_congr (propext a2) (fun _ => rfl) (fun _ => rfl))]
theorem up_neg (n t z : Int) : upM (-n) t z = -upM n t z := by
 unfold upM; rw [Int.neg_mul]
end
section
theorem takeAt {P : Program} {ops : Array Oper} {Q : Exit → Act → World → Prop} {md : Region.Mode} {S : World → Prop} {fuel : Nat} {listed : Array Bool} {a : Act} {w : World} (i : Nat) (d : Option Tmp) (v : Value)
  (hi : ∃ oi, ops[i]? = some oi ∧ oi.dst = d ∧ Region.wanted oi (yielded ops a.tmps) = true ∧ ∀ w, S w → (execOp a.eval oi).run P w = .ok (.value v) w)
  (hs : Region.noSelect ops = true) (hf : Region.free md ops listed i = true) (hr : (Region.ready md ops listed).contains i = true)
  (hQ : ∀ c a w, Q (.panic c) (a.put d v) w → Q (.panic c) a w) (hS : S w)
  (h : wpAnyH P md ops Q S fuel (listed.setIfInBounds i true) (a.put d v) w) : wpAnyH P md ops Q S (fuel + 1) listed a w := by
 obtain ⟨oi, h1, h2, h3, h4⟩ := hi
 subst h2
 exact wpAnyH_take h1 hs hf hr hQ (Or.inl ⟨h3, h4⟩) hS h
end
section
theorem takeC {P : Program} {ops : Array Oper} {Q : Exit → Act → World → Prop} {md : Region.Mode} {S : World → Prop} {fuel : Nat} {listed : Array Bool} {a a' : Act} {w : World} (i : Nat) (d : Option Tmp) {v : Value}
  (h : wpAnyH P md ops Q S fuel (listed.setIfInBounds i true) a' w)
  (hi : ∃ oi, ops[i]? = some oi ∧ oi.dst = d ∧ Region.wanted oi (yielded ops a.tmps) = true ∧ ∀ w, S w → (execOp a.eval oi).run P w = .ok (.value v) w := by
   exact ⟨_, rfl, rfl, rfl, by (intro w0 hSw; (try rw [unhide HSS] at hSw); (try dsimp only at hSw); go_simp; try (with_reducible rfl))⟩)
  (hp : a.put d v = a' := by (simp only [Act.put, List.setIfInBounds_toArray, List.set_cons_zero, List.set_cons_succ]; rfl))
  (hs : Region.noSelect ops = true := by kernel_rfl) (hf : Region.free md ops listed i = true := by kernel_rfl) (hr : (Region.ready md ops listed).contains i = true := by kernel_rfl)
  (hQ : ∀ c a w, Q (.panic c) (a.put d v) w → Q (.panic c) a w := by exact fun _ _ _ h => h) (hS : S w := by assumption) : wpAnyH P md ops Q S (fuel + 1) listed a w := takeAt i d v hi hs hf hr hQ hS (hp ▸ h)
end
end Go.Proofs.YtfdimdjmnfdecaaGreat

/- FTree FMath FRd FHere FPass FBin FBox FChain FExpr FBeh FWithin FKids FRest: laid together. -/
import Derived.Test.YtdlfgnmcokdceabDoorGA
import Derived.Deep.Slices
import Derived.Lib.SmallJoins
import Derived.Test.YtdlfgnmcokdceabDoorGC
import Derived.Deep.AppendLies
/- An expression as a tree, with the places where its kids lie: kept from world to world. -/
namespace Go.Proofs.YtdlfgnmcokdceabDoor
open Go.ChangeShapes Go.WideShapes Go.RowKit
set_option linter.unusedVariables false

/- kind, B, D, T, Lo, Hi, and Kids: where they lie, how many, how many there is room for, they ('none' stands behind them). -/
inductive XT where
  | none
  | mk (k : Int) (b : Bool) (m s : Int) (t : ByteArray) (lo hi : Bool) (a : Option Addr) (len cap : Nat) (kid : Nat → XT)

instance : Inhabited XT := ⟨.none⟩

namespace XT
def cells : XT → List Value
  | .none => []
  | .mk k b m s t lo hi a len cap _ => [.int .i64 k, .bool b, .int .i64 m, .int .i64 s, .string t, .bool lo, .bool hi, .slice a len cap]
def val : XT → Value
  | .none => .agg #[]
  | .mk k b m s t lo hi a len cap _ => .agg #[.int .i64 k, .bool b, .int .i64 m, .int .i64 s, .string t, .bool lo, .bool hi, .slice a len cap]

/- it lies in the world, its kids in blocks of which Q holds. -/
def In (Q : Nat → Prop) (w : World) : XT → Prop
  | .none => False
  | .mk _ _ _ _ _ _ _ a len _ kid => len ≤ maxLen ∧
      ∀ i, i < len → (∃ bl o, a = some ⟨bl, o, Option.none⟩ ∧ Q bl ∧ ∀ j, j < 8 → w.cell? ⟨bl, o + i * 8 + j, Option.none⟩ = (kid i).cells[j]?) ∧ (kid i).In Q w

theorem In.form {Q : Nat → Prop} {w : World} {x : XT} (h : x.In Q w) : ∃ k b m s t lo hi a len cap kid, x = .mk k b m s t lo hi a len cap kid := by
  cases x with
  | none => exact absurd h (by simp [In])
  | mk k b m s t lo hi a len cap kid => exact ⟨k, b, m, s, t, lo, hi, a, len, cap, kid, rfl⟩

theorem In.keep {Q : Nat → Prop} {w w' : World} (hh : ∀ bl o, bl < w.heap.size → Q bl → w'.cell? ⟨bl, o, Option.none⟩ = w.cell? ⟨bl, o, Option.none⟩) (x : XT) (h : x.In Q w) : x.In Q w' := by
  induction x with
  | none => exact h
  | mk k b m s t lo hi a len cap kid ih =>
    refine ⟨h.1, fun i hi => ?_⟩
    obtain ⟨⟨bl, o, ha, hq, hc⟩, hk⟩ := h.2 i hi
    refine ⟨⟨bl, o, ha, hq, fun j hj => ?_⟩, ih i hk⟩
    have h0 := hc 0 (by omega)
    have hl : bl < w.heap.size := by
      obtain ⟨_, _, _, _, _, _, _, _, _, _, _, hx⟩ := hk.form
      rw [hx] at h0
      exact World.block_lt_of_cell? _ _ h0
    rw [hh bl _ hl hq]
    exact hc j hj

theorem In.below {Q : Nat → Prop} {w w' : World} {x : XT} (h : x.In Q w) (b : Below w.heap.size w w') : x.In Q w' := h.keep (fun bl o hl _ => (bcell b).1 bl o hl)
theorem In.alloc {Q : Nat → Prop} {w : World} {x : XT} (h : x.In Q w) (o : Obj) : x.In Q (w.alloc o) := h.below (below1 w o)
/- of its blocks less is said, or that they are there. -/
theorem In.weak {Q Q' : Nat → Prop} {w : World} {x : XT} (h : x.In Q w) (hq : ∀ g, g < w.heap.size → Q g → Q' g) : x.In Q' w := by
  induction x with
  | none => exact h
  | mk k b m s t lo hi a len cap kid ih =>
    refine ⟨h.1, fun i hi => ?_⟩
    obtain ⟨⟨bl, o, ha, hq1, hc⟩, hk⟩ := h.2 i hi
    refine ⟨⟨bl, o, ha, ?_, hc⟩, ih i hk⟩
    have h0 := hc 0 (by omega)
    obtain ⟨_, _, _, _, _, _, _, _, _, _, _, hx⟩ := hk.form
    rw [hx] at h0
    exact hq bl (World.block_lt_of_cell? _ _ h0) hq1
theorem In.set {Q : Nat → Prop} {w : World} {x : XT} (h : x.In Q w) {p : Addr} (hp : ∀ g, Q g → g ≠ p.block) (v : Value) : x.In Q (w.setCell p v) :=
  h.keep (fun bl o hl hq => World.cell?_of_block (w := w) (Below.heap_setCell _ _ _ _ (hp bl hq)))
theorem In.set8 {Q : Nat → Prop} {w : World} {x : XT} (h : x.In Q w) {r : Nat} (hp : ∀ g, Q g → g ≠ r) (v0 v1 v2 v3 v4 v5 v6 v7 : Value) : x.In Q ((((((((w.setCell ⟨r, 0, Option.none⟩ v0).setCell ⟨r, 1, Option.none⟩ v1).setCell ⟨r, 2, Option.none⟩ v2).setCell ⟨r, 3, Option.none⟩ v3).setCell ⟨r, 4, Option.none⟩ v4).setCell ⟨r, 5, Option.none⟩ v5).setCell ⟨r, 6, Option.none⟩ v6).setCell ⟨r, 7, Option.none⟩ v7) :=
  (((((((h.set hp v0).set hp v1).set hp v2).set hp v3).set hp v4).set hp v5).set hp v6).set hp v7

/- the eight cells of an element, and that it lies there. -/
def Eight (w : World) (bl o : Nat) (k : Int) (b : Bool) (m s : Int) (t : ByteArray) (lo hi : Bool) (a : Option Addr) (len cap : Nat) : Prop :=
  bl < w.heap.size ∧ w.cell? ⟨bl, o, Option.none⟩ = some (.int .i64 k) ∧ w.cell? ⟨bl, o + 1, Option.none⟩ = some (.bool b) ∧ w.cell? ⟨bl, o + 2, Option.none⟩ = some (.int .i64 m) ∧ w.cell? ⟨bl, o + 3, Option.none⟩ = some (.int .i64 s) ∧ w.cell? ⟨bl, o + 4, Option.none⟩ = some (.string t) ∧ w.cell? ⟨bl, o + 5, Option.none⟩ = some (.bool lo) ∧ w.cell? ⟨bl, o + 6, Option.none⟩ = some (.bool hi) ∧ w.cell? ⟨bl, o + 7, Option.none⟩ = some (.slice a len cap)

theorem In.kid {Q : Nat → Prop} {w : World} {k : Int} {b : Bool} {m s : Int} {t : ByteArray} {lo hi : Bool} {a : Option Addr} {len cap : Nat} {kid : Nat → XT} (h : (XT.mk k b m s t lo hi a len cap kid).In Q w) {i : Nat} (hi' : i < len) :
    ∃ bl o k' b' m' s' t' lo' hi' a' len' cap' kid', a = some ⟨bl, o, Option.none⟩ ∧ kid i = .mk k' b' m' s' t' lo' hi' a' len' cap' kid' ∧ Eight w bl (o + i * 8) k' b' m' s' t' lo' hi' a' len' cap' ∧ (XT.mk k' b' m' s' t' lo' hi' a' len' cap' kid').In Q w := by
  obtain ⟨⟨bl, o, ha, hq, hc⟩, hk⟩ := h.2 i hi'
  obtain ⟨k', b', m', s', t', lo', hi', a', len', cap', kid', hx⟩ := hk.form
  rw [hx] at hc hk
  have h0 := hc 0 (by omega)
  exact ⟨bl, o, k', b', m', s', t', lo', hi', a', len', cap', kid', ha, hx, ⟨World.block_lt_of_cell? _ _ h0, h0, hc 1 (by omega), hc 2 (by omega), hc 3 (by omega), hc 4 (by omega), hc 5 (by omega), hc 6 (by omega), hc 7 (by omega)⟩, hk⟩

theorem Eight.below {w w' : World} {bl o : Nat} {k : Int} {b : Bool} {m s : Int} {t : ByteArray} {lo hi : Bool} {a : Option Addr} {len cap : Nat} (h : Eight w bl o k b m s t lo hi a len cap) (hb : Below w.heap.size w w') : Eight w' bl o k b m s t lo hi a len cap := by
  obtain ⟨h0, h1, h2, h3, h4, h5, h6, h7, h8⟩ := h
  have hc := (bcell hb).1
  exact ⟨Nat.lt_of_lt_of_le h0 hb.size, (hc bl _ h0).trans h1, (hc bl _ h0).trans h2, (hc bl _ h0).trans h3, (hc bl _ h0).trans h4, (hc bl _ h0).trans h5, (hc bl _ h0).trans h6, (hc bl _ h0).trans h7, (hc bl _ h0).trans h8⟩

/- the tree alone, without the places. -/
def bare : XT → XT
  | .none => .none
  | .mk k b m s t lo hi _ len _ kid => .mk k b m s t lo hi Option.none len 0 (fun i => if i < len then (kid i).bare else .none)

def tl (t : ByteArray) : List UInt8 := t.data.toList
/- what else a kind names. -/
def fld (k : Int) (b b' : Bool) (m m' s s' : Int) (t t' : ByteArray) (lo lo' hi hi' : Bool) : Bool :=
  if k = 2 then b == b' else if k = 3 then decide (m = m') && decide (s = s') else if k = 4 ∨ k = 5 ∨ k = 6 ∨ k = 10 then tl t == tl t' else if k = 11 then lo == lo' && hi == hi' else true
/- whether two are one. -/
def same : XT → XT → Bool
  | .mk k b m s t lo hi _ len _ kid, .mk k' b' m' s' t' lo' hi' _ len' _ kid' => decide (k = k') && (decide (len = len') && (fld k b b' m m' s s' t t' lo lo' hi hi' && (List.range len).all fun i => (kid i).same (kid' i)))
  | .none, .none => true
  | _, _ => false

theorem fld_self (k : Int) (b : Bool) (m s : Int) (t : ByteArray) (lo hi : Bool) : fld k b b m m s s t t lo lo hi hi = true := by
  unfold fld
  split
  · simp
  split
  · simp
  split
  · simp
  split <;> simp

theorem same_self (x : XT) : x.same x = true := by
  induction x with
  | none => rfl
  | mk k b m s t lo hi a len cap kid ih =>
    unfold same
    rw [fld_self]
    simp [ih]

theorem same_bare (x : XT) : ∀ y : XT, x.same y = x.bare.same y.bare := by
  induction x with
  | none => intro y; cases y <;> rfl
  | mk k b m s t lo hi a len cap kid ih =>
    intro y
    cases y with
    | none => rfl
    | mk k' b' m' s' t' lo' hi' a' len' cap' kid' =>
      unfold bare same
      by_cases hl : len = len'
      · subst hl
        congr 3
        rw [Bool.eq_iff_iff]
        simp only [List.all_eq_true, List.mem_range]
        constructor
        · intro h i hi
          rw [if_pos hi, if_pos hi, ← ih i]
          exact h i hi
        · intro h i hi
          have := h i hi
          rw [if_pos hi, if_pos hi, ← ih i] at this
          exact this
      · simp [hl]
theorem same_of {x y z : XT} (h1 : x.bare = z) (h2 : y.bare = z) : x.same y = true := by
  rw [same_bare, h1, h2, same_self]

/- an expression of kids. -/
def mkX (k : Int) (b : Bool) (m s : Int) (t : ByteArray) (lo hi : Bool) (l : List XT) : XT := .mk k b m s t lo hi Option.none l.length 0 (fun i => l.getD i .none)
theorem bare_mk (k : Int) (b : Bool) (m s : Int) (t : ByteArray) (lo hi : Bool) (a : Option Addr) (cap : Nat) (l : List XT) : (XT.mk k b m s t lo hi a l.length cap (fun i => l.getD i .none)).bare = mkX k b m s t lo hi (l.map bare) := by
  unfold bare mkX
  rw [List.length_map]
  congr 1
  funext i
  split
  · rename_i h; simp [h]
  · rename_i h; simp at h; simp [h]
end XT

/- a row of expressions as cells. -/
def xsC (l : List XT) : List Value := l.flatMap XT.cells
/- fresh: from the block B on. -/
def Fr (B : Nat) : Nat → Prop := fun g => B ≤ g
/- one whose kids lie in a block of their own. -/
theorem in_row {Q : Nat → Prop} {w : World} {g : Nat} (hQ : Q g) (l : List XT) (hl : l.length ≤ maxLen) (hc : ∀ i (h : i < l.length) j, j < 8 → w.cell? ⟨g, i * 8 + j, none⟩ = l[i].cells[j]?) (hin : ∀ x ∈ l, x.In Q w) (k : Int) (b : Bool) (m s : Int) (t : ByteArray) (lo hi : Bool) (cap : Nat) :
    (XT.mk k b m s t lo hi (some ⟨g, 0, none⟩) l.length cap (fun i => l.getD i .none)).In Q w := by
  refine ⟨hl, fun i h => ?_⟩
  have e : l.getD i .none = l[i] := by simp [h]
  refine ⟨⟨g, 0, rfl, hQ, fun j hj => ?_⟩, ?_⟩
  · dsimp only
    rw [Nat.zero_add, hc i h j hj, e]
  · dsimp only
    rw [e]
    exact hin _ (List.getElem_mem h)
theorem in_leaf {Q : Nat → Prop} {w : World} (k : Int) (b : Bool) (m s : Int) (t : ByteArray) (lo hi : Bool) : (XT.mk k b m s t lo hi none 0 0 (fun i => [].getD i .none)).In Q w :=
  ⟨Nat.zero_le _, fun i hi => absurd hi (Nat.not_lt_zero _)⟩

/- no expression. -/
def zX : XT := .mk 0 false 0 0 ⟨#[]⟩ false false none 0 0 (fun _ => .none)
def zV : Value := .agg #[.int .i64 0, .bool false, .int .i64 0, .int .i64 0, .string ⟨#[]⟩, .bool false, .bool false, .slice none 0 0]
theorem zX_val : zX.val = zV := rfl
theorem zX_in (Q : Nat → Prop) (w : World) : zX.In Q w := ⟨Nat.zero_le _, fun i hi => absurd hi (Nat.not_lt_zero _)⟩
end Go.Proofs.YtdlfgnmcokdceabDoor

/- The mathematics of parsing: the expression that begins at a place of a row of tokens, or the first error and its place. -/
namespace Go.Proofs.YtdlfgnmcokdceabDoor
set_option linter.unusedVariables false

/- a text as a decimal, or the error. -/
def fit3 (neg : Bool) (n : Int) (s : Nat) : Int × Int × Int :=
  (fitM (if neg = true then -n else n) s, fitS (if neg = true then -n else n) s, fitE (if neg = true then -n else n) s)
def decR (neg : Bool) (r : List UInt8) : Int × Int × Int :=
  if run isDig r = 0 then (0, 0, 2)
  else if run isDig r = r.length then (if 18 < r.length then (0, 0, 3) else fit3 neg (num r) 0)
  else if (r.drop (run isDig r)).head? = some 46 ∧ run isDig (r.drop (run isDig r + 1)) ≠ 0 ∧ run isDig r + 1 + run isDig (r.drop (run isDig r + 1)) = r.length then
    (if 18 < run isDig r + run isDig (r.drop (run isDig r + 1)) ∨ 8 < run isDig (r.drop (run isDig r + 1)) then (0, 0, 3) else fit3 neg (num (r.take (run isDig r) ++ r.drop (run isDig r + 1))) (run isDig (r.drop (run isDig r + 1))))
  else (0, 0, 2)
def decP (l : List UInt8) : Int × Int × Int := if l.head? = some 45 then decR true (l.drop 1) else decR false (l.drop 0)

abbrev Mk := List UInt8
/- an expression and the place behind it, or an error and its place. -/
inductive RX where
  | ok (x : XT) (k : Nat)
  | er (e : Int) (k : Nat)
inductive RL where
  | ok (l : List XT) (k : Nat)
  | er (e : Int) (k : Nat)

/- does that word or sign stand there? -/
def mkB (ts : List Tk) (k : Nat) (m : Mk) : Bool :=
  match ts[k]? with
  | some t => t.1 == (if wordB m = true then 1 else 4) && t.2.1 == m
  | none => false
/- which of them does. -/
def fnd (ts : List Tk) (k : Nat) : List Mk → Option Mk
  | [] => none
  | m :: ms => if mkB ts k m = true then some m else fnd ts k ms

def strB (l : List UInt8) : ByteArray := ⟨l.toArray⟩
def binX (op : Mk) (x y : XT) : XT := .mkX 6 false 0 0 (strB op) false false [x, y]
def chainP (ts : List Tk) (part : Nat → RX) (ops : List Mk) : Nat → XT → Nat → RX
  | 0, x, k => .ok x k
  | f + 1, x, k => match fnd ts k ops with
    | none => .ok x k
    | some op => match part (k + 1) with
      | .er e k' => .er e k'
      | .ok y k' => chainP ts part ops f (binX op x y) k'
def chP (ts : List Tk) (part : Nat → RX) (ops : List Mk) (k : Nat) : RX :=
  match part k with
  | .er e k' => .er e k'
  | .ok x k' => chainP ts part ops ts.length x k'

def mOr : Mk := [111, 114]
def mAnd : Mk := [97, 110, 100]
def mIn : Mk := [105, 110]
def mIf : Mk := [105, 102]
def mThen : Mk := [116, 104, 101, 110]
def mElse : Mk := [101, 108, 115, 101]
def mNull : Mk := [110, 117, 108, 108]
def mTrue : Mk := [116, 114, 117, 101]
def mFalse : Mk := [102, 97, 108, 115, 101]
def mDots : Mk := [46, 46]
def mRels : List Mk := [[60], [60, 61], [62], [62, 61], [61], [33, 61]]

/- an expression behind one of some marks. -/
inductive RM where
  | ok (m : Mk) (x : XT) (k : Nat)
  | er (m : Mk) (e : Int) (k : Nat)
def behP (ts : List Tk) (e1 : Nat → RX) (ms : List Mk) (k : Nat) : RM :=
  match fnd ts k ms with
  | none => .er [] 2 k
  | some m => match e1 (k + 1) with
    | .er e k' => .er m e k'
    | .ok x k' => .ok m x k'

def inX (lo hi : Bool) (x a b : XT) : XT := .mkX 11 false 0 0 (strB []) lo hi [x, a, b]
def withinP (ts : List Tk) (e1 : Nat → RX) (x : XT) (k : Nat) : RX :=
  match behP ts e1 [[91], [40]] k with
  | .er _ e k' => .er e k'
  | .ok o a k1 => match behP ts e1 [mDots] k1 with
    | .er _ e k' => .er e k'
    | .ok _ b k2 => match fnd ts k2 [[93], [41]] with
      | none => .er 2 k2
      | some c => .ok (inX (o == [91]) (c == [93]) x a b) (k2 + 1)
def cmpP (ts : List Tk) (ad e1 : Nat → RX) (k : Nat) : RX :=
  match ad k with
  | .er e k' => .er e k'
  | .ok x k1 => if mkB ts k1 mIn = true then withinP ts e1 x (k1 + 1) else
    match fnd ts k1 mRels with
    | none => .ok x k1
    | some op => match ad (k1 + 1) with
      | .er e k' => .er e k'
      | .ok y k2 => .ok (binX op x y) k2

def restL (ts : List Tk) (e1 : Nat → RX) (shut : Mk) : Nat → List XT → Nat → RL
  | 0, _, k => .er 2 k
  | f + 1, acc, k => match e1 k with
    | .er e k' => .er e k'
    | .ok x k' => match fnd ts k' [[44], shut] with
      | none => .er 2 k'
      | some m => if m = shut then .ok (acc ++ [x]) (k' + 1) else restL ts e1 shut f (acc ++ [x]) (k' + 1)
def restP (ts : List Tk) (e1 : Nat → RX) (shut : Mk) (k : Nat) : RL :=
  if mkB ts k shut = true then .ok [] (k + 1) else restL ts e1 shut (ts.length + 1) [] k

def callX (t : Mk) (l : List XT) : XT := .mkX 10 false 0 0 (strB t) false false l
def nameX (t : Mk) : XT := .mkX 5 false 0 0 (strB t) false false []
def listX (l : List XT) : XT := .mkX 9 false 0 0 (strB []) false false l
def textX (t : Mk) : XT := .mkX 4 false 0 0 (strB t) false false []
def numX (m s : Int) : XT := .mkX 3 false m s (strB []) false false []
def boolX (b : Bool) : XT := .mkX 2 b 0 0 (strB []) false false []
def nullX : XT := .mkX 1 false 0 0 (strB []) false false []
def negX (x : XT) : XT := .mkX 7 false 0 0 (strB []) false false [x]
def ifX (x y z : XT) : XT := .mkX 8 false 0 0 (strB []) false false [x, y, z]

def choiceP (ts : List Tk) (e1 : Nat → RX) (k : Nat) : RX :=
  match behP ts e1 [mIf] k with
  | .er _ e k' => .er e k'
  | .ok _ x k1 => match behP ts e1 [mThen] k1 with
    | .er _ e k' => .er e k'
    | .ok _ y k2 => match behP ts e1 [mElse] k2 with
      | .er _ e k' => .er e k'
      | .ok _ z k3 => .ok (ifX x y z) k3
def constP (ts : List Tk) (k : Nat) : RX :=
  if mkB ts k mNull = true then .ok nullX (k + 1) else if mkB ts k mTrue = true then .ok (boolX true) (k + 1) else if mkB ts k mFalse = true then .ok (boolX false) (k + 1) else .er 2 k
def brackP (ts : List Tk) (e1 : Nat → RX) (k : Nat) : RX :=
  match e1 k with
  | .er e k' => .er e k'
  | .ok x k' => if mkB ts k' [41] = true then .ok x (k' + 1) else .er 2 k'
def numP (t : Mk) (k : Nat) : RX := if (decP t).2.2 = 0 then .ok (numX (decP t).1 (decP t).2.1) (k + 1) else .er (decP t).2.2 k
def namedP (ts : List Tk) (e1 : Nat → RX) (t : Mk) (k : Nat) : RX :=
  if mkB ts k [40] = true then (match restP ts e1 [41] (k + 1) with
    | .er e k' => .er e k'
    | .ok l k' => .ok (callX t l) k') else .ok (nameX t) k
def listedP (ts : List Tk) (e1 : Nat → RX) (k : Nat) : RX :=
  match restP ts e1 [93] k with
  | .er e k' => .er e k'
  | .ok l k' => .ok (listX l) k'
/- what no number, text or name stands at. -/
def signP (ts : List Tk) (e1 : Nat → RX) (k : Nat) : RX :=
  if mkB ts k [91] = true then listedP ts e1 (k + 1) else if mkB ts k [40] = true then brackP ts e1 (k + 1) else if mkB ts k mIf = true then choiceP ts e1 k else constP ts k
def atomP (ts : List Tk) (e1 : Nat → RX) (k : Nat) : RX :=
  match ts[k]? with
  | none => .er 2 k
  | some t => if t.1 = 2 then numP t.2.1 k else if t.1 = 3 then .ok (textX t.2.1) (k + 1) else if t.1 = 1 ∧ wordB t.2.1 = false then namedP ts e1 t.2.1 (k + 1) else signP ts e1 k

def unaryP (ts : List Tk) (u1 e1 : Nat → RX) (k : Nat) : RX :=
  if mkB ts k [45] = true then (match u1 (k + 1) with
    | .er e k' => .er e k'
    | .ok x k' => .ok (negX x) k') else atomP ts e1 k
def mulP (ts : List Tk) (u : Nat → RX) : Nat → RX := chP ts u [[42], [47]]
def addP (ts : List Tk) (u : Nat → RX) : Nat → RX := chP ts (mulP ts u) [[43], [45]]
def comP (ts : List Tk) (u e1 : Nat → RX) : Nat → RX := cmpP ts (addP ts u) e1
def andP (ts : List Tk) (u e1 : Nat → RX) : Nat → RX := chP ts (comP ts u e1) [mAnd]
def exprP (ts : List Tk) (u e1 : Nat → RX) : Nat → RX := chP ts (andP ts u e1) [mOr]
/- unary and expr, where so many may still stand within. -/
def UE (ts : List Tk) : Nat → (Nat → RX) × (Nat → RX)
  | 0 => (fun k => .er 12 k, exprP ts (fun k => .er 12 k) (fun k => .er 12 k))
  | f + 1 => (unaryP ts (UE ts f).1 (UE ts f).2, exprP ts (unaryP ts (UE ts f).1 (UE ts f).2) (UE ts f).2)

/- the place of a token; of the row's end. -/
def posT (ts : List Tk) (k : Nat) (e : Int) : Int := match ts[k]? with
  | some t => t.2.2
  | none => e
/- Take: the expression, the place behind, the error's place, the error. -/
def takeT (ts : List Tk) (k : Nat) (e : Int) : XT × Int × Int × Int :=
  match (UE ts 9).2 k with
  | .ok x k' => (x, k', 0, 0)
  | .er c k' => (zX, k, posT ts k' e, c)
def parseT (s : List UInt8) : XT × Int × Int :=
  match lexT s with
  | (ts, n, e) => if e ≠ 0 then (zX, n, e) else match (UE ts 9).2 0 with
    | .er c k' => (zX, posT ts k' n, c)
    | .ok x k' => if k' < ts.length then (zX, posT ts k' n, 2) else (x, n, 0)
end Go.Proofs.YtdlfgnmcokdceabDoor

/- A reader in memory: where it stands; what a call may turn: the reader's place, and nothing else that was there. -/
namespace Go.Proofs.YtdlfgnmcokdceabDoor
open Go.RowKit
set_option linter.unusedVariables false

theorem below_dN {B : Nat} {a w : World} (h : Below B a w) (n : Nat) : Below B a (w.drewN n) := ⟨h.os, h.tape, h.output, h.size, h.block⟩
/- of what was there only the block b has turned. -/
structure Mv (b : Nat) (w w' : World) : Prop where
  os : w'.os = w.os
  tape : w'.tape = w.tape
  output : w'.output = w.output
  size : w.heap.size ≤ w'.heap.size
  block : ∀ k, k < w.heap.size → k ≠ b → w'.heap[k]? = w.heap[k]?
theorem Mv.refl (b : Nat) (w : World) : Mv b w w := ⟨rfl, rfl, rfl, Nat.le_refl _, fun _ _ _ => rfl⟩
theorem Mv.trans {b : Nat} {w0 w1 w2 : World} (h : Mv b w0 w1) (k : Mv b w1 w2) : Mv b w0 w2 :=
  ⟨k.os.trans h.os, k.tape.trans h.tape, k.output.trans h.output, Nat.le_trans h.size k.size, fun i hi hb => (k.block i (Nat.lt_of_lt_of_le hi h.size) hb).trans (h.block i hi hb)⟩
theorem Mv.of_below {b : Nat} {w w' : World} (h : Below w.heap.size w w') : Mv b w w' := ⟨h.os, h.tape, h.output, h.size, fun k hk _ => h.block k hk⟩
theorem Mv.below {b : Nat} {w0 w1 w2 : World} (h : Mv b w0 w1) (k : Below w1.heap.size w1 w2) : Mv b w0 w2 := h.trans (Mv.of_below k)
theorem Mv.alloc {b : Nat} {w0 w1 : World} (h : Mv b w0 w1) (o : Obj) : Mv b w0 (w1.alloc o) := h.below (below1 w1 o)
theorem Mv.drew {b : Nat} {w0 w1 : World} (h : Mv b w0 w1) : Mv b w0 w1.drew := ⟨h.os, h.tape, h.output, h.size, h.block⟩
theorem Mv.drewN {b : Nat} {w0 w1 : World} (h : Mv b w0 w1) (n : Nat) : Mv b w0 (w1.drewN n) := by
  exact ⟨h.os, h.tape, h.output, h.size, h.block⟩
theorem Mv.put {b : Nat} {w0 w1 : World} (h : Mv b w0 w1) (o : Nat) (v : Value) : Mv b w0 (w1.setCell ⟨b, o, none⟩ v) :=
  h.trans ⟨rfl, rfl, rfl, by simp [World.setCell], fun k hk hb => Below.heap_setCell _ _ _ _ hb⟩
theorem Mv.own {b : Nat} {w0 w1 : World} (h : Mv b w0 w1) {p : Addr} (hp : w0.heap.size ≤ p.block) (v : Value) : Mv b w0 (w1.setCell p v) :=
  ⟨h.os, h.tape, h.output, by simpa [World.setCell] using h.size, fun k hk hb => (Below.heap_setCell _ _ _ _ (by omega)).trans (h.block k hk hb)⟩
theorem Mv.cell {b : Nat} {w w' : World} (h : Mv b w w') {g o : Nat} (hg : g < w.heap.size) (hb : g ≠ b) : w'.cell? ⟨g, o, none⟩ = w.cell? ⟨g, o, none⟩ := World.cell?_of_block (w := w) (h.block g hg hb)
theorem Mv.frozen {b : Nat} {w w' : World} (h : Mv b w w') {g o : Nat} (hg : g < w.heap.size) (hb : g ≠ b) : w'.frozen? ⟨g, o, none⟩ = w.frozen? ⟨g, o, none⟩ := World.frozen?_of_block (w := w) (h.block g hg hb)
theorem Mv.kc {b : Nat} {w w' : World} (h : Mv b w w') {g o : Nat} {v : Value} (hg : g < w.heap.size) (hb : g ≠ b) (hc : w.cell? ⟨g, o, none⟩ = some v) : w'.cell? ⟨g, o, none⟩ = some v := (h.cell hg hb).trans hc
theorem Mv.kf {b : Nat} {w w' : World} (h : Mv b w w') {g o : Nat} (hg : g < w.heap.size) (hb : g ≠ b) (hc : w.frozen? ⟨g, o, none⟩ = false) : w'.frozen? ⟨g, o, none⟩ = false := (h.frozen hg hb).trans hc
theorem XT.In.mv {b : Nat} {Q : Nat → Prop} {w w' : World} {x : XT} (h : x.In Q w) (k : Mv b w w') (hQ : ∀ g, Q g → g ≠ b) : x.In Q w' := h.keep (fun bl o hl hq => k.cell hl (hQ bl hq))
theorem XT.In.drew {Q : Nat → Prop} {w : World} {x : XT} (h : x.In Q w) : x.In Q w.drew := h.below (Below.refl _ _).drew
theorem XT.In.drewN {Q : Nat → Prop} {w : World} {x : XT} (h : x.In Q w) (n : Nat) : x.In Q (w.drewN n) := h.below (below_dN (Below.refl _ _) n)
theorem Mv.at {b : Nat} {w w' : World} (h : Mv b w w') (g : Nat) (hg : g < w.heap.size) (hb : g ≠ b) : (∀ o, w'.cell? ⟨g, o, none⟩ = w.cell? ⟨g, o, none⟩) ∧ (∀ o, w'.frozen? ⟨g, o, none⟩ = w.frozen? ⟨g, o, none⟩) := ⟨fun o => h.cell hg hb, fun o => h.frozen hg hb⟩
theorem Mv.own8 {b : Nat} {w0 w1 : World} (h : Mv b w0 w1) {r : Nat} (hr : w0.heap.size ≤ r) (v0 v1 v2 v3 v4 v5 v6 v7 : Value) : Mv b w0 ((((((((w1.setCell ⟨r, 0, none⟩ v0).setCell ⟨r, 1, none⟩ v1).setCell ⟨r, 2, none⟩ v2).setCell ⟨r, 3, none⟩ v3).setCell ⟨r, 4, none⟩ v4).setCell ⟨r, 5, none⟩ v5).setCell ⟨r, 6, none⟩ v6).setCell ⟨r, 7, none⟩ v7) :=
  (((((((h.own hr v0).own hr v1).own hr v2).own hr v3).own hr v4).own hr v5).own hr v6).own hr v7
/- a block of which nothing below is a part goes its own way. -/
theorem Mv.toBelow {b : Nat} {w w0 w' : World} (h : Mv b w0 w') (hb : Below w.heap.size w w0) (hn : w.heap.size ≤ b) : Below w.heap.size w w' :=
  hb.trans ⟨h.os, h.tape, h.output, h.size, fun k hk => h.block k (Nat.lt_of_lt_of_le hk hb.size) (by omega)⟩

/- what a token may be. -/
def GoodT (t : Tk) : Prop := t.2.1.length ≤ 1000 ∧ t.1 ≤ 4 ∧ (t.1 = 4 → wordB t.2.1 = false)
def GoodTs (ts : List Tk) : Prop := ts.length ≤ 1000 ∧ ∀ k (h : k < ts.length), GoodT ts[k]

/- the reader lies in the block b, its row at a, and it stands at k. -/
structure Rd (b : Nat) (a : Option Addr) (cap : Nat) (ts : List Tk) (w : World) (k : Nat) : Prop where
  lt : b < w.heap.size
  le : k ≤ ts.length
  c0 : w.cell? ⟨b, 0, none⟩ = some (.slice a ts.length cap)
  c1 : w.cell? ⟨b, 1, none⟩ = some (.int .i64 (k : Int))
  fr : w.frozen? ⟨b, 1, none⟩ = false
  row : ∀ i (h : i < ts.length), ∃ g, a = some ⟨g, 0, none⟩ ∧ g ≠ b ∧ Tok3 w g (i * 3) ts[i]

variable {b : Nat} {a : Option Addr} {cap : Nat} {ts : List Tk}
theorem Tok3.mv {b : Nat} {w w' : World} {g o : Nat} {t : Tk} (h : Tok3 w g o t) (hb : g ≠ b) (k : Mv b w w') : Tok3 w' g o t := by
  obtain ⟨h0, h1, h2, h3⟩ := h
  exact ⟨Nat.lt_of_lt_of_le h0 k.size, k.kc h0 hb h1, k.kc h0 hb h2, k.kc h0 hb h3⟩
theorem Rd.below {w w' : World} {k : Nat} (h : Rd b a cap ts w k) (hb : Below w.heap.size w w') : Rd b a cap ts w' k :=
  ⟨Nat.lt_of_lt_of_le h.lt hb.size, h.le, kcell hb h.lt h.c0, kcell hb h.lt h.c1, kfroz hb h.lt h.fr, fun i hi => by
    obtain ⟨g, ha, hg, ht⟩ := h.row i hi
    exact ⟨g, ha, hg, ht.mv hg (Mv.of_below hb)⟩⟩
theorem Rd.alloc {w : World} {k : Nat} (h : Rd b a cap ts w k) (o : Obj) : Rd b a cap ts (w.alloc o) k := h.below (below1 w o)
theorem Rd.drew {w : World} {k : Nat} (h : Rd b a cap ts w k) : Rd b a cap ts w.drew k := ⟨h.lt, h.le, h.c0, h.c1, h.fr, h.row⟩
theorem Rd.drewN {w : World} {k : Nat} (h : Rd b a cap ts w k) (n : Nat) : Rd b a cap ts (w.drewN n) k := by
  exact ⟨h.lt, h.le, h.c0, h.c1, h.fr, h.row⟩
/- a store into a block that is newer than a world in which the reader lay. -/
theorem Rd.own {w w0 : World} {k k0 : Nat} (h : Rd b a cap ts w k) (h0 : Rd b a cap ts w0 k0) {p : Addr} (hp : w0.heap.size ≤ p.block) (v : Value) : Rd b a cap ts (w.setCell p v) k := by
  have e : ∀ g, g ≠ p.block → (w.setCell p v).heap[g]? = w.heap[g]? := fun g hg => Below.heap_setCell _ _ _ _ hg
  have ec : ∀ g o, g ≠ p.block → (w.setCell p v).cell? ⟨g, o, none⟩ = w.cell? ⟨g, o, none⟩ := fun g o hg => World.cell?_of_block (w := w) (e g hg)
  have hb := h0.lt
  refine ⟨by simpa [World.setCell] using h.lt, h.le, (ec b 0 (by omega)).trans h.c0, (ec b 1 (by omega)).trans h.c1, (World.frozen?_of_block (w := w) (e b (by omega))).trans h.fr, fun i hi => ?_⟩
  obtain ⟨g, hg, hb, t0, t1, t2, t3⟩ := h.row i hi
  obtain ⟨g', hg', -, s0, -⟩ := h0.row i hi
  obtain rfl : g = g' := by rw [hg] at hg'; simpa using hg'
  have hn : g ≠ p.block := by omega
  exact ⟨g, hg, hb, by simpa [World.setCell] using t0, (ec g _ hn).trans t1, (ec g _ hn).trans t2, (ec g _ hn).trans t3⟩
theorem Rd.own8 {w w0 : World} {k k0 : Nat} (h : Rd b a cap ts w k) (h0 : Rd b a cap ts w0 k0) {r : Nat} (hr : w0.heap.size ≤ r) (v0 v1 v2 v3 v4 v5 v6 v7 : Value) : Rd b a cap ts ((((((((w.setCell ⟨r, 0, none⟩ v0).setCell ⟨r, 1, none⟩ v1).setCell ⟨r, 2, none⟩ v2).setCell ⟨r, 3, none⟩ v3).setCell ⟨r, 4, none⟩ v4).setCell ⟨r, 5, none⟩ v5).setCell ⟨r, 6, none⟩ v6).setCell ⟨r, 7, none⟩ v7) k :=
  (((((((h.own h0 hr v0).own h0 hr v1).own h0 hr v2).own h0 hr v3).own h0 hr v4).own h0 hr v5).own h0 hr v6).own h0 hr v7
/- the reader goes on. -/
theorem Rd.put {w : World} {k k' : Nat} (h : Rd b a cap ts w k) (hk : k' ≤ ts.length) : Rd b a cap ts (w.setCell ⟨b, 1, none⟩ (.int .i64 (k' : Int))) k' := by
  have m : Mv b w (w.setCell ⟨b, 1, none⟩ (.int .i64 (k' : Int))) := (Mv.refl b w).put 1 _
  obtain ⟨h0, h1, h2, h3, h4, h5⟩ := h
  refine ⟨by simpa [World.setCell] using h0, hk, ?_, ?_, ?_, fun i hi => ?_⟩
  · go_simp
  · go_simp
  · go_simp
  · obtain ⟨g, ha, hg, ht⟩ := h5 i hi
    exact ⟨g, ha, hg, ht.mv hg m⟩

/- what a part of the reader answers. -/
def Post (b : Nat) (a : Option Addr) (cap : Nat) (ts : List Tk) (R : RX) (k : Nat) (w : World) (e : Ending) (w' : World) : Prop :=
  Mv b w w' ∧ match R with
  | .ok x k' => k ≤ k' ∧ Rd b a cap ts w' k' ∧ ∃ T : XT, e = .returned (.tuple #[T.val, .int .i64 0]) ∧ T.In (Fr w.heap.size) w' ∧ T.bare = x
  | .er c k' => k ≤ k' ∧ Rd b a cap ts w' k' ∧ (c != 0) = true ∧ e = .returned (.tuple #[zV, .int .i64 c])
theorem post_ok {w W : World} {k k' r B : Nat} {x : XT} (m : Mv b w W) (R : Rd b a cap ts W k') (R0 : Rd b a cap ts w k) (hk : k ≤ k') (hr : w.heap.size ≤ r) (hB : r < B) {ek : Int} {eb : Bool} {em es : Int} {et : ByteArray} {elo ehi : Bool} {ea : Option Addr} {el ec : Nat} {ekid : Nat → XT}
    (hT : (XT.mk ek eb em es et elo ehi ea el ec ekid).In (Fr B) W) (hx : (XT.mk ek eb em es et elo ehi ea el ec ekid).bare = x) (v0 v1 v2 v3 v4 v5 v6 v7 : Value) :
    Post b a cap ts (.ok x k') k w (.returned (.tuple #[.agg #[.int .i64 ek, .bool eb, .int .i64 em, .int .i64 es, .string et, .bool elo, .bool ehi, .slice ea el ec], .int .i64 0]))
      ((((((((W.setCell ⟨r, 0, none⟩ v0).setCell ⟨r, 1, none⟩ v1).setCell ⟨r, 2, none⟩ v2).setCell ⟨r, 3, none⟩ v3).setCell ⟨r, 4, none⟩ v4).setCell ⟨r, 5, none⟩ v5).setCell ⟨r, 6, none⟩ v6).setCell ⟨r, 7, none⟩ v7) :=
  ⟨m.own8 hr _ _ _ _ _ _ _ _, hk, R.own8 R0 hr _ _ _ _ _ _ _ _, _, rfl, (hT.set8 (fun g hg => by unfold Fr at hg; omega) _ _ _ _ _ _ _ _).weak (fun g _ hg => by unfold Fr at hg ⊢; omega), hx⟩
theorem post_er {w W : World} {k k' r : Nat} {c : Int} (m : Mv b w W) (R : Rd b a cap ts W k') (R0 : Rd b a cap ts w k) (hk : k ≤ k') (hr : w.heap.size ≤ r) (hc : (c != 0) = true) (v0 v1 v2 v3 v4 v5 v6 v7 : Value) :
    Post b a cap ts (.er c k') k w (.returned (.tuple #[.agg #[.int .i64 0, .bool false, .int .i64 0, .int .i64 0, .string ⟨#[]⟩, .bool false, .bool false, .slice none 0 0], .int .i64 c]))
      ((((((((W.setCell ⟨r, 0, none⟩ v0).setCell ⟨r, 1, none⟩ v1).setCell ⟨r, 2, none⟩ v2).setCell ⟨r, 3, none⟩ v3).setCell ⟨r, 4, none⟩ v4).setCell ⟨r, 5, none⟩ v5).setCell ⟨r, 6, none⟩ v6).setCell ⟨r, 7, none⟩ v7) :=
  ⟨m.own8 hr _ _ _ _ _ _ _ _, hk, R.own8 R0 hr _ _ _ _ _ _ _ _, hc, rfl⟩
/- a part of the reader, at a depth. -/
def PartOf (b : Nat) (a : Option Addr) (cap : Nat) (ts : List Tk) (f : Nat) (d : Nat) (part : Nat → RX) : Prop :=
  ∀ (w : World) (k : Nat), Rd b a cap ts w k → Calls Tryd.prog f #[.pointer (some ⟨b, 0, none⟩), .int .i64 (d : Int)] w fun e w' => Post b a cap ts (part k) k w e w'
end Go.Proofs.YtdlfgnmcokdceabDoor

/- The contracts of the reader's here and place. -/
namespace Go.Proofs.YtdlfgnmcokdceabDoor
open Go.RowKit
set_option linter.unusedVariables false
variable {b : Nat} {a : Option Addr} {cap : Nat} {ts : List Tk}

def tkV (t : Tk) : Value := .agg #[.int .i64 (t.1 : Int), .string ⟨t.2.1.toArray⟩, .int .i64 (t.2.2 : Int)]
/- the token at a place; behind the row's end one of no kind. -/
def tokAt (ts : List Tk) (k : Nat) : Tk := (ts[k]?).getD (0, [], 0)
theorem tokAt_in {ts : List Tk} {k : Nat} (h : k < ts.length) : tokAt ts k = ts[k] := by simp [tokAt, h]
theorem tokAt_end {ts : List Tk} {k : Nat} (h : ts.length ≤ k) : tokAt ts k = (0, [], 0) := by simp [tokAt, h]

set_option maxHeartbeats 1000000 in
theorem here_any (w : World) (k : Nat) (R : Rd b a cap ts w k) (hts : GoodTs ts) :
    Calls Tryd.prog 55 #[.pointer (some ⟨b, 0, none⟩)] w fun e w' => e = .returned (tkV (tokAt ts k)) ∧ Below w.heap.size w w' := by
  obtain ⟨hlt, hle, hc0, hc1, hfr, hrow⟩ := R
  have hn := hts.1
  clear hts
  by_cases hk : k < ts.length
  · obtain ⟨g, rfl, hgb, h0, h1, h2, h3⟩ := hrow k hk
    clear hrow
    rw [tokAt_in hk]
    generalize ts[k] = t at *
    obtain ⟨tk, tt, tp⟩ := t
    unfold tkV
    dsimp only at h1 h2 h3 ⊢
    have e0 : ((k : Int) == (ts.length : Int)) = false := by simp; omega
    generalize ts.length = n at *
    go_enter Tryd.func55, Tryd.ntmps55
    go_wp2_with fail
    go_quiet (fail)
    go_wp2_with fail
    go_region
    all_goals
      go_wp2_with fail
      refine bodyPost_ret (v := .agg #[.int .i64 (tk : Int), .string ⟨tt.toArray⟩, .int .i64 (tp : Int)]) (by simp [results, Tryd.results55, go_sem]) rfl ⟨rfl, ?_⟩
      (repeat (first | with_reducible assumption | with_reducible exact Below.refl _ _ | (with_reducible refine Below.setCell ?_ ?_ _; rotate_left; (focus (first | omega | (simp; done) | (simp; omega) | (dsimp only; omega)))) | (with_reducible refine Below.alloc ?_ ?_ _; rotate_left; (focus (first | omega | (simp; done) | (simp; omega) | (dsimp only; omega)))) | with_reducible refine Below.drew ?_ | with_reducible refine below_dN ?_ _))
  · have hk' : k = ts.length := by omega
    rw [tokAt_end (by omega)]
    clear hrow
    have e0 : ((k : Int) == (ts.length : Int)) = true := by simp; omega
    generalize ts.length = n at *
    go_enter Tryd.func55, Tryd.ntmps55
    go_wp2_with fail
    go_quiet (fail)
    go_wp2_with fail
    refine bodyPost_ret (v := .agg #[.int .i64 0, .string ⟨#[]⟩, .int .i64 0]) (by simp [results, Tryd.results55, go_sem]) rfl ⟨rfl, ?_⟩
    (repeat (first | with_reducible assumption | with_reducible exact Below.refl _ _ | (with_reducible refine Below.setCell ?_ ?_ _; rotate_left; (focus (first | omega | (simp; done) | (simp; omega) | (dsimp only; omega)))) | (with_reducible refine Below.alloc ?_ ?_ _; rotate_left; (focus (first | omega | (simp; done) | (simp; omega) | (dsimp only; omega)))) | with_reducible refine Below.drew ?_ | with_reducible refine below_dN ?_ _))

set_option maxHeartbeats 1000000 in
theorem place_any (w : World) (k : Nat) (en : Int) (R : Rd b a cap ts w k) (hts : GoodTs ts) :
    Calls Tryd.prog 22 #[.pointer (some ⟨b, 0, none⟩), .int .i64 en] w fun e w' => e = .returned (.int .i64 (posT ts k en)) ∧ Below w.heap.size w w' := by
  obtain ⟨hlt, hle, hc0, hc1, hfr, hrow⟩ := R
  have hn := hts.1
  clear hts
  by_cases hk : k < ts.length
  · obtain ⟨g, rfl, hgb, h0, h1, h2, h3⟩ := hrow k hk
    clear hrow
    have HP := hide (show ((ts[k].2.2 : Nat) : Int) = posT ts k en by simp [posT, hk])
    generalize posT ts k en = P at *
    generalize ts[k] = t at *
    obtain ⟨tk, tt, tp⟩ := t
    dsimp only at h1 h2 h3 HP
    have e0 : ((k : Int) == (ts.length : Int)) = false := by simp; omega
    generalize ts.length = n at *
    go_enter Tryd.func22, Tryd.ntmps22
    go_wp2_with fail
    go_quiet (fail)
    go_wp2_with fail
    go_quiet (fail)
    go_wp2_with fail
    go_ret
    exact ⟨ret_int (unhide HP), by (repeat (first | with_reducible assumption | with_reducible exact Below.refl _ _ | (with_reducible refine Below.setCell ?_ ?_ _; rotate_left; (focus (first | omega | (simp; done) | (simp; omega) | (dsimp only; omega)))) | (with_reducible refine Below.alloc ?_ ?_ _; rotate_left; (focus (first | omega | (simp; done) | (simp; omega) | (dsimp only; omega)))) | with_reducible refine Below.drew ?_ | with_reducible refine below_dN ?_ _))⟩
  · have HP := hide (show en = posT ts k en by simp [posT, show ts.length ≤ k by omega])
    generalize posT ts k en = P at *
    clear hrow
    have e0 : ((k : Int) == (ts.length : Int)) = true := by simp; omega
    generalize ts.length = n at *
    go_enter Tryd.func22, Tryd.ntmps22
    go_wp2_with fail
    go_quiet (fail)
    go_wp2_with fail
    go_ret
    exact ⟨ret_int (unhide HP), by (repeat (first | with_reducible assumption | with_reducible exact Below.refl _ _ | (with_reducible refine Below.setCell ?_ ?_ _; rotate_left; (focus (first | omega | (simp; done) | (simp; omega) | (dsimp only; omega)))) | (with_reducible refine Below.alloc ?_ ?_ _; rotate_left; (focus (first | omega | (simp; done) | (simp; omega) | (dsimp only; omega)))) | with_reducible refine Below.drew ?_ | with_reducible refine below_dN ?_ _))⟩
end Go.Proofs.YtdlfgnmcokdceabDoor

/- The contracts of the reader's next and pass. -/
namespace Go.Proofs.YtdlfgnmcokdceabDoor
open Go.RowKit
set_option linter.unusedVariables false
variable {b : Nat} {a : Option Addr} {cap : Nat} {ts : List Tk}

theorem mkB_tok (ts : List Tk) (k : Nat) (m : Mk) : mkB ts k m = (((tokAt ts k).1 == (if wordB m = true then 1 else 4)) && ((tokAt ts k).2.1 == m)) := by
  unfold mkB tokAt
  cases ts[k]? with
  | some t => rfl
  | none => by_cases h : wordB m = true <;> simp [h]
theorem mkB_lt {ts : List Tk} {k : Nat} {m : Mk} (h : mkB ts k m = true) : k < ts.length := by
  unfold mkB at h
  split at h
  · rename_i t ht
    exact (List.getElem?_eq_some_iff.1 ht).1
  · cases h
theorem good_at {ts : List Tk} (h : GoodTs ts) (k : Nat) : GoodT (tokAt ts k) := by
  by_cases hk : k < ts.length
  · rw [tokAt_in hk]; exact h.2 k hk
  · rw [tokAt_end (by omega)]; exact ⟨by simp, by simp, by simp⟩

theorem nx_no {tk c : Nat} {x : Bool} (h : ((tk : Int) == (c : Int)) = false) : false = ((tk == c) && x) := by
  have : (tk == c) = false := by simp at h ⊢; omega
  rw [this]; rfl
theorem nx_yes {tk c : Nat} {x : Bool} (h : ((tk : Int) == (c : Int)) = true) : x = ((tk == c) && x) := by
  have : (tk == c) = true := by simp at h ⊢; omega
  rw [this]; rfl
set_option maxHeartbeats 1000000 in
theorem next_any (w : World) (k : Nat) (m : Mk) (R : Rd b a cap ts w k) (hts : GoodTs ts) (hm : m.length ≤ 1000) :
    Calls Tryd.prog 49 #[.pointer (some ⟨b, 0, none⟩), .string ⟨m.toArray⟩] w fun e w' => e = .returned (.bool (mkB ts k m)) ∧ Below w.heap.size w w' := by
  have HM := hide (mkB_tok ts k m)
  generalize mkB ts k m = M at *
  have H := hide (fun w (R : Rd b a cap ts w k) => here_any w k R hts)
  have W := hide (word_any m w hm)
  have hg := good_at hts k
  generalize tokAt ts k = t at *
  obtain ⟨tk, tt, tp⟩ := t
  obtain ⟨g1, g2, g3⟩ := hg
  unfold tkV at H
  dsimp only at H HM g1 g2 g3
  have RR := hide R
  clear R hts g3
  cases hw : wordB m
  · rw [hw] at W
    have HN := hide (show M = ((tk == 4) && (tt == m)) by rw [unhide HM, hw]; rfl)
    clear HM
    cases hk : ((tk : Int) == 4)
    · have HE := hide (show false = M by rw [unhide HN]; exact nx_no hk)
      go_enter Tryd.func49, Tryd.ntmps49
      go_wp2_with fail
      refine (unhide W).mono ?_
      rintro e w1 ⟨rfl, rfl⟩
      go_wp2_with fail
      refine (unhide H _ (unhide RR)).mono ?_
      rintro e w2 ⟨rfl, b2⟩
      go_wp2_with fail
      go_ret
      exact ⟨ret_bool (unhide HE), b2.alloc b2.size _⟩
    · have HE := hide (show (tt == m) = M by rw [unhide HN]; exact nx_yes hk)
      go_enter Tryd.func49, Tryd.ntmps49
      go_wp2_with fail
      refine (unhide W).mono ?_
      rintro e w1 ⟨rfl, rfl⟩
      go_wp2_with fail
      refine (unhide H _ (unhide RR)).mono ?_
      rintro e w2 ⟨rfl, b2⟩
      go_wp2_with fail
      go_ret
      exact ⟨ret_bool (unhide HE), b2.alloc b2.size _⟩
  · rw [hw] at W
    have HN := hide (show M = ((tk == 1) && (tt == m)) by rw [unhide HM, hw]; rfl)
    clear HM
    cases hk : ((tk : Int) == 1)
    · have HE := hide (show false = M by rw [unhide HN]; exact nx_no hk)
      go_enter Tryd.func49, Tryd.ntmps49
      go_wp2_with fail
      refine (unhide W).mono ?_
      rintro e w1 ⟨rfl, rfl⟩
      go_wp2_with fail
      refine (unhide H _ (unhide RR)).mono ?_
      rintro e w2 ⟨rfl, b2⟩
      go_wp2_with fail
      go_ret
      exact ⟨ret_bool (unhide HE), b2.alloc b2.size _⟩
    · have HE := hide (show (tt == m) = M by rw [unhide HN]; exact nx_yes hk)
      go_enter Tryd.func49, Tryd.ntmps49
      go_wp2_with fail
      refine (unhide W).mono ?_
      rintro e w1 ⟨rfl, rfl⟩
      go_wp2_with fail
      refine (unhide H _ (unhide RR)).mono ?_
      rintro e w2 ⟨rfl, b2⟩
      go_wp2_with fail
      go_ret
      exact ⟨ret_bool (unhide HE), b2.alloc b2.size _⟩

/- some marks lie in a row of their own. -/
def Marks (b : Nat) (w : World) (g : Nat) (ms : List Mk) : Prop := g < w.heap.size ∧ g ≠ b ∧ ms.length ≤ 1000 ∧ ∀ i (h : i < ms.length), ms[i].length ≤ 1000 ∧ w.cell? ⟨g, i, none⟩ = some (.string ⟨ms[i].toArray⟩)
theorem Marks.mv {b : Nat} {w w' : World} {g : Nat} {ms : List Mk} (h : Marks b w g ms) (k : Mv b w w') : Marks b w' g ms :=
  ⟨Nat.lt_of_lt_of_le h.1 k.size, h.2.1, h.2.2.1, fun i hi => ⟨(h.2.2.2 i hi).1, k.kc h.1 h.2.1 (h.2.2.2 i hi).2⟩⟩
theorem Marks.new (w : World) (b : Nat) (ms : List Mk) (t : TypeId) (hb : b < w.heap.size) (hl : ms.length ≤ 1000) (hm : ∀ m ∈ ms, m.length ≤ 1000) : Marks b (w.alloc (.cells (ms.map sV).toArray t)) w.heap.size ms := by
  refine ⟨by simp, by omega, hl, fun i hi => ⟨hm _ (List.getElem_mem hi), ?_⟩⟩
  rw [row_strs]
  simp [hi, sV]

theorem Marks.at {w : World} {b g : Nat} {ms : List Mk} {t : TypeId} (hg : g = w.heap.size) (hb : b < w.heap.size) (hl : ms.length ≤ 1000) (hm : ∀ m ∈ ms, m.length ≤ 1000) : Marks b (w.alloc (.cells (ms.map sV).toArray t)) g ms := hg ▸ Marks.new w b ms t hb hl hm

/- what pass answers. -/
def PassPost (b : Nat) (a : Option Addr) (cap : Nat) (ts : List Tk) (F : Option Mk) (k : Nat) (w : World) (e : Ending) (w' : World) : Prop :=
  Mv b w w' ∧ match F with
  | none => e = .returned (.string ⟨#[]⟩) ∧ Rd b a cap ts w' k
  | some m => e = .returned (.string ⟨m.toArray⟩) ∧ Rd b a cap ts w' (k + 1)

theorem fnd_step {ts : List Tk} {k i : Nat} {ms : List Mk} (h : i < ms.length) : fnd ts k (ms.drop i) = if mkB ts k ms[i] = true then some ms[i] else fnd ts k (ms.drop (i + 1)) := by
  rw [List.drop_eq_getElem_cons h, fnd]

set_option maxHeartbeats 1000000 in
theorem pass_any (w : World) (k : Nat) (g : Nat) (ms : List Mk) (c : Nat) (R : Rd b a cap ts w k) (hts : GoodTs ts) (hg : Marks b w g ms) :
    Calls Tryd.prog 43 #[.pointer (some ⟨b, 0, none⟩), .slice (some ⟨g, 0, none⟩) ms.length c] w fun e w' => PassPost b a cap ts (fnd ts k ms) k w e w' := by
  have hn := hg.2.2.1
  have hlt := R.lt
  have RR := hide R
  have HG := hide hg
  have N := hide (fun w m (R : Rd b a cap ts w k) hm => next_any w k m R hts hm)
  have hts' := hts.1
  clear R hg hts
  have HF := hide (show fnd ts k (ms.drop 0) = fnd ts k ms by rw [List.drop_zero])
  generalize fnd ts k ms = F at *
  go_enter Tryd.func43, Tryd.ntmps43
  go_wp2_with fail
  go_loopw [9] (fun v wr => ∃ (i : Nat), i ≤ ms.length ∧ v = .int .i64 i ∧ Below w.heap.size w wr ∧ Hid (fnd ts k (ms.drop i) = F)) (fun v _ => ms.length - (intOf v).toNat)
  case atStart => exact ⟨0, by omega, rfl, Below.refl _ _, HF⟩
  case round =>
    clear HF
    obtain ⟨i, hi, rfl, bel, HF⟩ := hrel
    have R1 := (unhide RR).below bel
    by_cases hil : i < ms.length
    · obtain ⟨hm, hc⟩ := ((unhide HG).mv (Mv.of_below bel)).2.2.2 i hil
      have NX := hide (fun w R => unhide N w _ R hm)
      have HS := hide (fnd_step (ts := ts) (k := k) hil)
      have HL := hide (fun (h : mkB ts k (ms[i]'hil) = true) => mkB_lt h)
      generalize ms[i] = m at *
      cases hM : mkB ts k m
      · rw [hM] at NX HS
        have HE := hide (show fnd ts k (ms.drop (i + 1)) = F by rw [← unhide HF, unhide HS]; rfl)
        go_wp2_with fail
        refine (unhide NX _ R1).mono ?_
        rintro e w2 ⟨rfl, b2⟩
        go_wp2_with fail
        go_roundw
        case rel => exact ⟨i + 1, by omega, by go_num, bstep bel b2, HE⟩
        case measure => simp [intOf]; omega
      · have hkt := unhide HL hM
        rw [hM] at NX HS
        have HE := hide (show some m = F by rw [← unhide HF, unhide HS]; rfl)
        have R0 := hide R1
        go_wp2_with fail
        refine (unhide NX _ R1).mono ?_
        rintro e w2 ⟨rfl, b2⟩
        have R2 := (unhide R0).below b2
        have R2' := hide R2
        obtain ⟨r1, r2, r3, r4, r5, -⟩ := R2
        clear R1 hc
        have bel2 := bstep bel b2
        go_wp2_with fail
        go_ret
        rw [← unhide HE]
        have hP := (unhide R2').put (k' := k + 1) (by omega)
        rw [show (((k + 1 : Nat)) : Int) = (k : Int) + 1 by omega] at hP
        exact ⟨(Mv.of_below bel2).put 1 _, rfl, hP⟩
    · have HE := hide (show none = F by rw [← unhide HF, List.drop_eq_nil_of_le (by omega)]; rfl)
      go_wp2_with fail
      go_ret
      rw [← unhide HE]
      exact ⟨Mv.of_below bel, rfl, R1⟩
end Go.Proofs.YtdlfgnmcokdceabDoor

/- The contract of feel's binary. -/
namespace Go.Proofs.YtdlfgnmcokdceabDoor
open Go.RowKit
set_option linter.unusedVariables false

/- a row's cells, out of the block. -/
theorem row_block {w : World} {g : Nat} {cs : Array Value} {t : TypeId} {fr : Nat × Nat} (h : w.heap[g]? = some (.cells cs t fr)) (l : List XT) (hl : ∀ x ∈ l, x.cells.length = 8) (hcs : cs.toList = xsC l) :
    ∀ i (h : i < l.length) j, j < 8 → w.cell? ⟨g, i * 8 + j, none⟩ = l[i].cells[j]? := by
  intro i hi j hj
  rw [cell_of_row _ _ _ _ _ _ h, ← Array.getElem?_toList, hcs]
  clear h hcs
  induction l generalizing i with
  | nil => exact absurd hi (Nat.not_lt_zero _)
  | cons x l ih =>
    have hx := hl x (by simp)
    rw [xsC, List.flatMap_cons]
    cases i with
    | zero => rw [List.getElem?_append_left (by omega)]; simp
    | succ i =>
      rw [List.getElem?_append_right (by omega)]
      have e : (i + 1) * 8 + j - x.cells.length = i * 8 + j := by omega
      rw [e]
      have := ih (fun y hy => hl y (by simp [hy])) i (by simpa using hi)
      rw [xsC] at this
      rw [this]
      simp
theorem hset {w : World} {p : Addr} {v : Value} {g : Nat} {o : Obj} (h : w.heap[g]? = some o) (hp : g ≠ p.block) : (w.setCell p v).heap[g]? = some o := (Below.heap_setCell _ _ _ _ hp).trans h
theorem hset8 {w : World} {r g : Nat} {o : Obj} (h : w.heap[g]? = some o) (hp : g ≠ r) (v0 v1 v2 v3 v4 v5 v6 v7 : Value) : ((((((((w.setCell ⟨r, 0, none⟩ v0).setCell ⟨r, 1, none⟩ v1).setCell ⟨r, 2, none⟩ v2).setCell ⟨r, 3, none⟩ v3).setCell ⟨r, 4, none⟩ v4).setCell ⟨r, 5, none⟩ v5).setCell ⟨r, 6, none⟩ v6).setCell ⟨r, 7, none⟩ v7).heap[g]? = some o :=
  hset (hset (hset (hset (hset (hset (hset (hset h hp) hp) hp) hp) hp) hp) hp) hp
theorem heap_at {w : World} {g : Nat} (h : g = w.heap.size) (o : Obj) : (w.alloc o).heap[g]? = some o := by rw [h]; exact heap_alloc_new w o
theorem mk_cells (k : Int) (b : Bool) (m s : Int) (t : ByteArray) (lo hi : Bool) (a : Option Addr) (len cap : Nat) (kid : Nat → XT) : (XT.mk k b m s t lo hi a len cap kid).cells.length = 8 := rfl
theorem below8 {w w1 : World} {r : Nat} (h : Below w.heap.size w w1) (hr : w.heap.size ≤ r) (v0 v1 v2 v3 v4 v5 v6 v7 : Value) : Below w.heap.size w ((((((((w1.setCell ⟨r, 0, none⟩ v0).setCell ⟨r, 1, none⟩ v1).setCell ⟨r, 2, none⟩ v2).setCell ⟨r, 3, none⟩ v3).setCell ⟨r, 4, none⟩ v4).setCell ⟨r, 5, none⟩ v5).setCell ⟨r, 6, none⟩ v6).setCell ⟨r, 7, none⟩ v7) :=
  (((((((h.setCell hr v0).setCell hr v1).setCell hr v2).setCell hr v3).setCell hr v4).setCell hr v5).setCell hr v6).setCell hr v7

set_option maxHeartbeats 2000000 in
theorem binary_any (Q : Nat → Prop) (x y : XT) (op : Mk) (w : World) (hx : x.In Q w) (hy : y.In Q w) (hQ : ∀ g, w.heap.size ≤ g → Q g) :
    Calls Tryd.prog 44 #[x.val, .string ⟨op.toArray⟩, y.val] w fun e w' => ∃ T : XT, e = .returned T.val ∧ T.In Q w' ∧ T.bare = binX op x.bare y.bare ∧ Below w.heap.size w w' := by
  have HX := hide hx
  have HY := hide hy
  obtain ⟨k, b, m, s, t, lo, hi, a, len, cap, kid, rfl⟩ := hx.form
  obtain ⟨k', b', m', s', t', lo', hi', a', len', cap', kid', rfl⟩ := hy.form
  clear hx hy
  have HQ := hide hQ
  clear hQ
  show Calls Tryd.prog 44 #[.agg #[.int .i64 k, .bool b, .int .i64 m, .int .i64 s, .string t, .bool lo, .bool hi, .slice a len cap], .string ⟨op.toArray⟩, .agg #[.int .i64 k', .bool b', .int .i64 m', .int .i64 s', .string t', .bool lo', .bool hi', .slice a' len' cap']] w _
  go_enter Tryd.func44, Tryd.ntmps44
  go_wp2_with fail
  refine bodyPost_ret (v := .agg #[.int .i64 6, .bool false, .int .i64 0, .int .i64 0, .string ⟨op.toArray⟩, .bool false, .bool false, .slice (some ⟨w.heap.size + 3, 0, none⟩) 2 2]) (by simp [results, Tryd.results44, go_sem]) rfl ⟨.mk 6 false 0 0 ⟨op.toArray⟩ false false (some ⟨w.heap.size + 3, 0, none⟩) 2 2 (fun i => [XT.mk k b m s t lo hi a len cap kid, XT.mk k' b' m' s' t' lo' hi' a' len' cap' kid'].getD i .none), rfl, ?_, XT.bare_mk 6 false 0 0 ⟨op.toArray⟩ false false (some ⟨w.heap.size + 3, 0, none⟩) 2 [XT.mk k b m s t lo hi a len cap kid, XT.mk k' b' m' s' t' lo' hi' a' len' cap' kid'], ?_⟩
  · refine in_row (unhide HQ _ (by omega)) [XT.mk k b m s t lo hi a len cap kid, XT.mk k' b' m' s' t' lo' hi' a' len' cap' kid'] (by simp [maxLen]) (row_block (heap_at (by simp) _) _ (by simp [mk_cells]) rfl) (by simp only [List.mem_cons, List.not_mem_nil, or_false, forall_eq_or_imp, forall_eq]; exact ⟨(unhide HX).below (by (repeat (first | with_reducible assumption | with_reducible exact Below.refl _ _ | (with_reducible refine Below.setCell ?_ ?_ _; rotate_left; (focus (first | omega | (simp; done) | (simp; omega) | (dsimp only; omega)))) | (with_reducible refine Below.alloc ?_ ?_ _; rotate_left; (focus (first | omega | (simp; done) | (simp; omega) | (dsimp only; omega)))) | with_reducible refine Below.drew ?_ | with_reducible refine below_dN ?_ _))), (unhide HY).below (by (repeat (first | with_reducible assumption | with_reducible exact Below.refl _ _ | (with_reducible refine Below.setCell ?_ ?_ _; rotate_left; (focus (first | omega | (simp; done) | (simp; omega) | (dsimp only; omega)))) | (with_reducible refine Below.alloc ?_ ?_ _; rotate_left; (focus (first | omega | (simp; done) | (simp; omega) | (dsimp only; omega)))) | with_reducible refine Below.drew ?_ | with_reducible refine below_dN ?_ _)))⟩) 6 false 0 0 ⟨op.toArray⟩ false false 2
  · (repeat (first | with_reducible assumption | with_reducible exact Below.refl _ _ | (with_reducible refine Below.setCell ?_ ?_ _; rotate_left; (focus (first | omega | (simp; done) | (simp; omega) | (dsimp only; omega)))) | (with_reducible refine Below.alloc ?_ ?_ _; rotate_left; (focus (first | omega | (simp; done) | (simp; omega) | (dsimp only; omega)))) | with_reducible refine Below.drew ?_ | with_reducible refine below_dN ?_ _))
end Go.Proofs.YtdlfgnmcokdceabDoor

/- An expression that lies in a block of its own: a variable. -/
namespace Go.Proofs.YtdlfgnmcokdceabDoor
open Go.RowKit
set_option linter.unusedVariables false

def XB (w : World) (g : Nat) (k : Int) (b : Bool) (m s : Int) (t : ByteArray) (lo hi : Bool) (a : Option Addr) (len cap : Nat) : Prop :=
  g < w.heap.size ∧ w.cell? ⟨g, 0, none⟩ = some (.int .i64 k) ∧ w.cell? ⟨g, 1, none⟩ = some (.bool b) ∧ w.cell? ⟨g, 2, none⟩ = some (.int .i64 m) ∧ w.cell? ⟨g, 3, none⟩ = some (.int .i64 s) ∧ w.cell? ⟨g, 4, none⟩ = some (.string t) ∧ w.cell? ⟨g, 5, none⟩ = some (.bool lo) ∧ w.cell? ⟨g, 6, none⟩ = some (.bool hi) ∧ w.cell? ⟨g, 7, none⟩ = some (.slice a len cap) ∧ ∀ o, w.frozen? ⟨g, o, none⟩ = false
theorem XB.by {w w' : World} {g : Nat} {k : Int} {b : Bool} {m s : Int} {t : ByteArray} {lo hi : Bool} {a : Option Addr} {len cap : Nat} (h : XB w g k b m s t lo hi a len cap) (hs : w.heap.size ≤ w'.heap.size) (hb : w'.heap[g]? = w.heap[g]?) : XB w' g k b m s t lo hi a len cap := by
  obtain ⟨h0, h1, h2, h3, h4, h5, h6, h7, h8, h9⟩ := h
  have hc : ∀ o, w'.cell? ⟨g, o, none⟩ = w.cell? ⟨g, o, none⟩ := fun o => World.cell?_of_block (w := w) hb
  have hf : ∀ o, w'.frozen? ⟨g, o, none⟩ = w.frozen? ⟨g, o, none⟩ := fun o => World.frozen?_of_block (w := w) hb
  exact ⟨Nat.lt_of_lt_of_le h0 hs, (hc _).trans h1, (hc _).trans h2, (hc _).trans h3, (hc _).trans h4, (hc _).trans h5, (hc _).trans h6, (hc _).trans h7, (hc _).trans h8, fun o => (hf o).trans (h9 o)⟩
section
variable {q : Nat} {w w' : World} {g : Nat} {k : Int} {b : Bool} {m s : Int} {t : ByteArray} {lo hi : Bool} {a : Option Addr} {len cap : Nat}
theorem XB.below (h : XB w g k b m s t lo hi a len cap) (hb : Below w.heap.size w w') : XB w' g k b m s t lo hi a len cap := h.by hb.size (hb.block g h.1)
theorem XB.mv (h : XB w g k b m s t lo hi a len cap) (hm : Mv q w w') (hq : g ≠ q) : XB w' g k b m s t lo hi a len cap := h.by hm.size (hm.block g h.1 hq)
theorem XB.alloc (h : XB w g k b m s t lo hi a len cap) (o : Obj) : XB (w.alloc o) g k b m s t lo hi a len cap := h.below (below1 w o)
theorem XB.set8 (h : XB w g k b m s t lo hi a len cap) {r : Nat} (hr : g ≠ r) (v0 v1 v2 v3 v4 v5 v6 v7 : Value) : XB ((((((((w.setCell ⟨r, 0, none⟩ v0).setCell ⟨r, 1, none⟩ v1).setCell ⟨r, 2, none⟩ v2).setCell ⟨r, 3, none⟩ v3).setCell ⟨r, 4, none⟩ v4).setCell ⟨r, 5, none⟩ v5).setCell ⟨r, 6, none⟩ v6).setCell ⟨r, 7, none⟩ v7) g k b m s t lo hi a len cap := by
  refine h.by (by simp [World.setCell]) ?_
  rw [Below.heap_setCell _ _ _ _ hr, Below.heap_setCell _ _ _ _ hr, Below.heap_setCell _ _ _ _ hr, Below.heap_setCell _ _ _ _ hr, Below.heap_setCell _ _ _ _ hr, Below.heap_setCell _ _ _ _ hr, Below.heap_setCell _ _ _ _ hr, Below.heap_setCell _ _ _ _ hr]
end
theorem XB.new (w : World) (k : Int) (b : Bool) (m s : Int) (t : ByteArray) (lo hi : Bool) (a : Option Addr) (len cap : Nat) (ty : TypeId) : XB (w.alloc (.cells #[.int .i64 k, .bool b, .int .i64 m, .int .i64 s, .string t, .bool lo, .bool hi, .slice a len cap] ty)) w.heap.size k b m s t lo hi a len cap :=
  ⟨by simp, by go_simp, by go_simp, by go_simp, by go_simp, by go_simp, by go_simp, by go_simp, by go_simp, fun o => by go_simp⟩
set_option maxHeartbeats 1000000 in
theorem XB.put {w : World} {g : Nat} {k : Int} {b : Bool} {m s : Int} {t : ByteArray} {lo hi : Bool} {a : Option Addr} {len cap : Nat} (h : XB w g k b m s t lo hi a len cap) (k' : Int) (b' : Bool) (m' s' : Int) (t' : ByteArray) (lo' hi' : Bool) (a' : Option Addr) (len' cap' : Nat) :
    XB ((((((((w.setCell ⟨g, 0, none⟩ (.int .i64 k')).setCell ⟨g, 1, none⟩ (.bool b')).setCell ⟨g, 2, none⟩ (.int .i64 m')).setCell ⟨g, 3, none⟩ (.int .i64 s')).setCell ⟨g, 4, none⟩ (.string t')).setCell ⟨g, 5, none⟩ (.bool lo')).setCell ⟨g, 6, none⟩ (.bool hi')).setCell ⟨g, 7, none⟩ (.slice a' len' cap')) g k' b' m' s' t' lo' hi' a' len' cap' := by
  obtain ⟨h0, h1, h2, h3, h4, h5, h6, h7, h8, h9⟩ := h
  exact ⟨by simpa [World.setCell] using h0, by go_simp, by go_simp, by go_simp, by go_simp, by go_simp, by go_simp, by go_simp, by go_simp, fun o => by go_simp⟩
theorem XB.at {w : World} {g : Nat} {k : Int} {b : Bool} {m s : Int} {t : ByteArray} {lo hi : Bool} {a : Option Addr} {len cap : Nat} {ty : TypeId} (hg : g = w.heap.size) : XB (w.alloc (.cells #[.int .i64 k, .bool b, .int .i64 m, .int .i64 s, .string t, .bool lo, .bool hi, .slice a len cap] ty)) g k b m s t lo hi a len cap := hg ▸ XB.new w k b m s t lo hi a len cap ty
/- no expression yet. -/
abbrev ZB (w : World) (g : Nat) : Prop := XB w g 0 false 0 0 ⟨#[]⟩ false false none 0 0
abbrev zO (ty : TypeId) : Obj := .cells #[.int .i64 0, .bool false, .int .i64 0, .int .i64 0, .string ⟨#[]⟩, .bool false, .bool false, .slice none 0 0] ty
theorem ZB.new (w : World) (ty : TypeId) : ZB (w.alloc (zO ty)) w.heap.size := XB.new w 0 false 0 0 ⟨#[]⟩ false false none 0 0 ty
end Go.Proofs.YtdlfgnmcokdceabDoor

/- The contract of the reader's chain: parts with alike operators between them. -/
namespace Go.Proofs.YtdlfgnmcokdceabDoor
open Go.RowKit
set_option linter.unusedVariables false
variable {b : Nat} {a : Option Addr} {cap : Nat} {ts : List Tk}

/- how a chain goes on. -/
theorem chainP_end {part : Nat → RX} {ops : List Mk} {f : Nat} {x : XT} {k : Nat} (h : fnd ts k ops = none) : chainP ts part ops f x k = .ok x k := by
  cases f with
  | zero => rfl
  | succ f => rw [chainP, h]
theorem fnd_lt {k : Nat} {ops : List Mk} {m : Mk} (h : fnd ts k ops = some m) : k < ts.length ∧ m ∈ ops := by
  induction ops with
  | nil => cases h
  | cons o ops ih =>
    rw [fnd] at h
    split at h
    · rename_i hm
      cases h
      exact ⟨mkB_lt hm, by simp⟩
    · obtain ⟨h1, h2⟩ := ih h
      exact ⟨h1, by simp [h2]⟩
theorem chainP_er {part : Nat → RX} {ops : List Mk} {f : Nat} {x : XT} {k k' : Nat} {op : Mk} {c : Int} (hf : ts.length - k ≤ f) (h : fnd ts k ops = some op) (hp : part (k + 1) = .er c k') : chainP ts part ops f x k = .er c k' := by
  have := (fnd_lt h).1
  cases f with
  | zero => omega
  | succ f => rw [chainP, h]; dsimp only; rw [hp]
theorem chainP_ok {part : Nat → RX} {ops : List Mk} {f : Nat} {x y : XT} {k k' : Nat} {op : Mk} (hf : ts.length - k ≤ f) (h : fnd ts k ops = some op) (hp : part (k + 1) = .ok y k') (hk : k + 1 ≤ k') :
    ∃ f', ts.length - k' ≤ f' ∧ chainP ts part ops f x k = chainP ts part ops f' (binX op x y) k' := by
  have := (fnd_lt h).1
  cases f with
  | zero => omega
  | succ f => exact ⟨f, by omega, by rw [chainP, h]; dsimp only; rw [hp]⟩

/- where the loop stands: an expression was read, or an error. -/
def ChainAt (b : Nat) (a : Option Addr) (cap : Nat) (ts : List Tk) (part : Nat → RX) (ops : List Mk) (RES : RX) (k B g : Nat) (e : Int) (w : World) : Prop :=
  (e = 0 ∧ ∃ kk f T, ∃ ek eb em es et elo ehi ea el ec ekid, T = XT.mk ek eb em es et elo ehi ea el ec ekid ∧ k ≤ kk ∧ Rd b a cap ts w kk ∧ XB w g ek eb em es et elo ehi ea el ec ∧ T.In (fun h => B < h ∧ h ≠ g) w ∧ ts.length - kk ≤ f ∧ chainP ts part ops f T.bare kk = RES) ∨
  ((e != 0) = true ∧ ∃ kk, k ≤ kk ∧ Rd b a cap ts w kk ∧ RES = .er e kk)

set_option maxHeartbeats 4000000 in
theorem chain_any (f d : Nat) (part : Nat → RX) (he : Enters f) (hp : PartOf b a cap ts f d part) (g : Nat) (ops : List Mk) (c : Nat) (hts : GoodTs ts) (w : World) (k : Nat) (R : Rd b a cap ts w k) (hg : Marks b w g ops) (hne : ∀ m ∈ ops, m ≠ []) :
    Calls Tryd.prog 32 #[.pointer (some ⟨b, 0, none⟩), .int .i64 (d : Int), .func (.func f) #[.pointer (some ⟨b, 0, none⟩)] #[], .slice (some ⟨g, 0, none⟩) ops.length c] w fun e w' => Post b a cap ts (chP ts part ops k) k w e w' := by
  unfold Enters at he
  have R0 := hide R
  have HP := hide hp
  have HG := hide hg
  have HN := hide hne
  have HT := hide hts
  have hlt := R.lt
  clear R hp hg hne hts
  have HC : Hid (chP ts part ops k = match part k with | .er e k' => .er e k' | .ok x k' => chainP ts part ops ts.length x k') := hide rfl
  generalize chP ts part ops k = RES at *
  go_enter Tryd.func32, Tryd.ntmps32
  go_wp2_with fail
  have C1 := unhide HP _ k ((unhide R0).alloc (zO 28))
  have z0 := ZB.new w 28
  cases hpk : part k with
  | er e1 k1 =>
    rw [hpk] at C1 HC
    clear hpk
    refine C1.mono ?_
    clear C1
    rintro e w1 ⟨m1, hk1, R1, hc1, rfl⟩
    unfold zV
    have Z1 := z0.mv m1 (by omega)
    have M1 := (Mv.of_below (b := b) (below1 w _)).trans m1
    have hz := M1.size
    clear z0 m1
    have hf : (e1 == 0) = false := by simpa using hc1
    go_wp2_with fail
    go_loopw [11] (fun v wr => v = .int .i64 e1 ∧ Below w1.heap.size w1 wr) (fun _ _ => 0)
    case atStart => exact ⟨rfl, below1 _ _⟩
    case round =>
      obtain ⟨rfl, bel⟩ := hrel
      obtain ⟨y0, y1, y2, y3, y4, y5, y6, y7, y8, y9⟩ := Z1.below bel
      have M2 := M1.below bel
      have R2 := R1.below bel
      clear Z1 bel R1 M1
      go_wp2_with fail
      refine bodyPost_ret (v := .tuple #[.agg #[.int .i64 0, .bool false, .int .i64 0, .int .i64 0, .string ⟨#[]⟩, .bool false, .bool false, .slice none 0 0], .int .i64 e1]) (by simp [results, Tryd.results32, go_sem, y1, y2, y3, y4, y5, y6, y7, y8]) rfl ?_
      rw [unhide HC]
      exact post_er M2 R2 (unhide R0) hk1 (Nat.le_refl _) hc1 _ _ _ _ _ _ _ _
  | ok x1 k1 =>
    rw [hpk] at C1 HC
    clear hpk
    refine C1.mono ?_
    clear C1
    rintro e w1 ⟨m1, hk1, R1, T, rfl, hin, hbr⟩
    have Z1 := hide (z0.mv m1 (by omega))
    have M1 := (Mv.of_below (b := b) (below1 w _)).trans m1
    have hz := M1.size
    have hz1 : w.heap.size + 1 ≤ w1.heap.size := by have := m1.size; simp at this; exact this
    clear z0 m1
    have HIN := hide hin
    obtain ⟨ek, eb, em, es, et, elo, ehi, ea, el, ec, ekid, rfl⟩ := hin.form
    clear hin
    dsimp only [XT.val]
    go_wp2_with fail
    go_loopw [11] (fun v wr => ∃ e1 : Int, v = .int .i64 e1 ∧ Hid (ChainAt b a cap ts part ops RES k w.heap.size w1.heap.size e1 wr) ∧ Hid (ZB wr w.heap.size) ∧ Mv b w wr ∧ w1.heap.size < wr.heap.size) (fun _ wr => ts.length - (intOf ((wr.cell? ⟨b, 1, none⟩).getD (.int .i64 0))).toNat)
    case atStart =>
      refine ⟨0, rfl, hide (Or.inl ⟨rfl, k1, ts.length, _, ek, eb, em, es, et, elo, ehi, ea, el, ec, ekid, rfl, hk1, R1.alloc _, XB.new _ _ _ _ _ _ _ _ _ _ _ _, ?_, by omega, ?_⟩), hide ((unhide Z1).alloc _), M1.alloc _, by simp⟩
      · exact ((unhide HIN).weak (Q' := fun h => w.heap.size < h ∧ h ≠ w1.heap.size) (fun g h1 h2 => by unfold Fr at h2; simp at h2; omega)).below (below1 _ _)
      · rw [hbr]; exact (unhide HC).symm
    case round =>
      clear HC HIN hbr Z1 R1 M1
      obtain ⟨e1, rfl, HA, HZ, M2, hz2⟩ := hrel
      rcases unhide HA with ⟨rfl, kk, ff, T, ek, eb, em, es, et, elo, ehi, ea, el, ec, ekid, rfl, hkk, R2, HX, hin, hf, hch⟩ | ⟨he1, kk, hkk, R2, hres⟩
      · have HIN := hide hin
        have HF := hide hf
        have HCH := hide hch
        have R2' := hide R2
        have HX' := hide HX
        clear hin hf hch HA
        have G2 := (unhide HG).mv M2
        have hc1 := R2.c1
        have P := hide (pass_any wr kk g ops c R2 (unhide HT) G2)
        cases hfd : fnd ts kk ops with
        | none =>
          rw [hfd] at P
          have HE := hide (chainP_end (part := part) (f := ff) (x := (XT.mk ek eb em es et elo ehi ea el ec ekid).bare) hfd)
          clear hfd
          go_wp2_with fail
          refine (unhide P).mono ?_
          rintro e w3 ⟨m3, rfl, R3⟩
          have hb2 := R2.lt
          obtain ⟨x0, x1, x2, x3, x4, x5, x6, x7, x8, x9⟩ := HX.mv m3 (by omega)
          obtain ⟨y0, y1, y2, y3, y4, y5, y6, y7, y8, y9⟩ := (unhide HZ).mv m3 (by omega)
          have HIN3 := hide ((unhide HIN).mv m3 (fun g hg => by omega))
          clear HX HX' R2 G2 hc1 R2' HIN
          go_wp2_with fail
          refine bodyPost_ret (v := .tuple #[.agg #[.int .i64 ek, .bool eb, .int .i64 em, .int .i64 es, .string et, .bool elo, .bool ehi, .slice ea el ec], .int .i64 0]) (by simp [results, Tryd.results32, go_sem, y1, y2, y3, y4, y5, y6, y7, y8]) rfl ?_
          rw [← unhide HCH, unhide HE]
          exact post_ok (B := w.heap.size + 1) (M2.trans m3) R3 (unhide R0) hkk (Nat.le_refl _) (Nat.lt_succ_self _) ((unhide HIN3).weak (fun g _ hg => by unfold Fr; omega)) rfl _ _ _ _ _ _ _ _
        | some op =>
          rw [hfd] at P
          obtain ⟨hkt, hop⟩ := fnd_lt hfd
          have hop' := unhide HN op hop
          have hne : (op == []) = false := by simpa using hop'
          clear hop hop'
          go_wp2_with fail
          refine (unhide P).mono ?_
          rintro e w3 ⟨m3, rfl, R3⟩
          have hb2 := R2.lt
          have HX3 := hide (HX.mv m3 (by omega))
          have HZ3 := hide ((unhide HZ).mv m3 (by omega))
          have HIN3 := hide ((unhide HIN).mv m3 (fun g hg => by omega))
          have M3 := M2.trans m3
          have z3 := m3.size
          clear HX HX' R2 G2 hc1 HIN HZ M2 m3
          go_wp2_with fail
          have C2 := unhide HP _ (kk + 1) (R3.alloc (zO 28))
          cases hp2 : part (kk + 1) with
          | er e2 k2 =>
            rw [hp2] at C2
            refine C2.mono ?_
            clear C2
            rintro e w4 ⟨m4, hk4, R4, hc4, rfl⟩
            have HE := hide (show RES = .er e2 k2 by rw [← unhide HCH]; exact chainP_er (unhide HF) hfd hp2)
            obtain ⟨U, hU, hinU⟩ : ∃ U : XT, zV = U.val ∧ U.In (Fr (w3.alloc (zO 28)).heap.size) w4 := ⟨zX, rfl, zX_in _ _⟩
            rw [hU]
            clear hU
            have HU := hide hinU
            obtain ⟨uk, ub, um, us, ut, ulo, uhi, ua, ul, uc, ukid, rfl⟩ := hinU.form
            clear hinU
            have Y4 := hide (((ZB.new w3 28).mv m4 (by omega)))
            have HX4 := hide (((unhide HX3).alloc (zO 28)).mv m4 (by omega))
            have HZ4 := hide (((unhide HZ3).alloc (zO 28)).mv m4 (by omega))
            have HIN4 := hide (((unhide HIN3).weak (Q' := fun h => w.heap.size < h ∧ h ≠ w1.heap.size ∧ h ≠ w3.heap.size) (fun g h1 h2 => by omega)).below (below1 w3 (zO 28)) |>.mv m4 (fun g hg => by omega))
            have M4 := (M3.alloc (zO 28)).trans m4
            have z4 : w3.heap.size + 1 ≤ w4.heap.size := by have := m4.size; simpa using this
            clear HX3 HZ3 HIN3 M3 m4 hp2
            obtain ⟨x0, x1, x2, x3, x4, x5, x6, x7, x8, x9⟩ := unhide HX4
            obtain ⟨v0, v1, v2, v3, v4, v5, v6, v7, v8, v9⟩ := unhide Y4
            dsimp only [XT.val]
            go_wp2_with fail
            have HX5 := (unhide HX4).set8 (r := w3.heap.size) (by omega) (.int .i64 uk) (.bool ub) (.int .i64 um) (.int .i64 us) (.string ut) (.bool ulo) (.bool uhi) (.slice ua ul uc)
            have HZ5 := (unhide HZ4).set8 (r := w3.heap.size) (by omega) (.int .i64 uk) (.bool ub) (.int .i64 um) (.int .i64 us) (.string ut) (.bool ulo) (.bool uhi) (.slice ua ul uc)
            have R5 := R4.own8 R3 (r := w3.heap.size) (Nat.le_refl _) (.int .i64 uk) (.bool ub) (.int .i64 um) (.int .i64 us) (.string ut) (.bool ulo) (.bool uhi) (.slice ua ul uc)
            have M5 := M4.own8 (r := w3.heap.size) (by omega) (.int .i64 uk) (.bool ub) (.int .i64 um) (.int .i64 us) (.string ut) (.bool ulo) (.bool uhi) (.slice ua ul uc)
            have HT5 := ((unhide HIN4).set8 (r := w3.heap.size) (fun g hg => by omega) (.int .i64 uk) (.bool ub) (.int .i64 um) (.int .i64 us) (.string ut) (.bool ulo) (.bool uhi) (.slice ua ul uc)).weak (Q' := fun h => w.heap.size < h ∧ h ≠ w1.heap.size) (fun g _ hg => by omega)
            have HU5 := ((unhide HU).set8 (r := w3.heap.size) (fun g hg => by unfold Fr at hg; simp at hg; omega) (.int .i64 uk) (.bool ub) (.int .i64 um) (.int .i64 us) (.string ut) (.bool ulo) (.bool uhi) (.slice ua ul uc)).weak (Q' := fun h => w.heap.size < h ∧ h ≠ w1.heap.size) (fun g _ hg => by unfold Fr at hg; simp at hg; omega)
            have zW := HX5.1
            refine (binary_any (fun h => w.heap.size < h ∧ h ≠ w1.heap.size) _ _ op _ HT5 HU5 (fun g hg => by have := HX5.1; have := HZ5.1; omega)).mono ?_
            rintro e w5 ⟨V, rfl, hinV, hbV, b5⟩
            have HX6 := HX5.below b5
            have HZ6 := hide (HZ5.below b5)
            have R6 := R5.below b5
            have M6 := M5.below b5
            clear HX5 HZ5 R5 M5 HT5 HU5 zW b5 HX4 HZ4 R4 M4 HIN4 HU x0 x1 x2 x3 x4 x5 x6 x7 x8 x9 v0 v1 v2 v3 v4 v5 v6 v7 v8 v9 Y4
            have HV := hide hinV
            obtain ⟨pk, pb, pm, ps, pt, plo, phi, pa, pl, pc, pkid, rfl⟩ := hinV.form
            clear hinV
            have HX7 := hide HX6
            obtain ⟨x0, x1, x2, x3, x4, x5, x6, x7, x8, x9⟩ := HX6
            dsimp only [XT.val]
            go_wp2_with fail
            go_roundw
            case rel =>
              refine ⟨e2, rfl, hide ?_, hide ((unhide HZ6).set8 (by omega) _ _ _ _ _ _ _ _), M6.own8 (by omega) _ _ _ _ _ _ _ _, by simpa [World.setCell] using x0⟩
              exact Or.inr ⟨hc4, k2, by omega, R6.own8 (unhide R0) (by omega) _ _ _ _ _ _ _ _, unhide HE⟩
            case measure =>
              rw [(R6.own8 (unhide R0) (r := w1.heap.size) (by omega) _ _ _ _ _ _ _ _).c1, (unhide R2').c1]
              simp [intOf]
              omega
          | ok x2 k2 =>
            rw [hp2] at C2
            refine C2.mono ?_
            clear C2
            rintro e w4 ⟨m4, hk4, R4, U, rfl, hinU, hbU⟩
            obtain ⟨f2, hf2, hch2⟩ := chainP_ok (x := (XT.mk ek eb em es et elo ehi ea el ec ekid).bare) (unhide HF) hfd hp2 (by omega)
            have HE := hide ((unhide HCH).symm.trans hch2)
            clear hch2
            have HU := hide hinU
            obtain ⟨uk, ub, um, us, ut, ulo, uhi, ua, ul, uc, ukid, rfl⟩ := hinU.form
            clear hinU
            have Y4 := hide (((ZB.new w3 28).mv m4 (by omega)))
            have HX4 := hide (((unhide HX3).alloc (zO 28)).mv m4 (by omega))
            have HZ4 := hide (((unhide HZ3).alloc (zO 28)).mv m4 (by omega))
            have HIN4 := hide (((unhide HIN3).weak (Q' := fun h => w.heap.size < h ∧ h ≠ w1.heap.size ∧ h ≠ w3.heap.size) (fun g h1 h2 => by omega)).below (below1 w3 (zO 28)) |>.mv m4 (fun g hg => by omega))
            have M4 := (M3.alloc (zO 28)).trans m4
            have z4 : w3.heap.size + 1 ≤ w4.heap.size := by have := m4.size; simpa using this
            clear HX3 HZ3 HIN3 M3 m4 hp2
            obtain ⟨x0, x1, x2, x3, x4, x5, x6, x7, x8, x9⟩ := unhide HX4
            obtain ⟨v0, v1, v2, v3, v4, v5, v6, v7, v8, v9⟩ := unhide Y4
            dsimp only [XT.val]
            go_wp2_with fail
            have HX5 := (unhide HX4).set8 (r := w3.heap.size) (by omega) (.int .i64 uk) (.bool ub) (.int .i64 um) (.int .i64 us) (.string ut) (.bool ulo) (.bool uhi) (.slice ua ul uc)
            have HZ5 := (unhide HZ4).set8 (r := w3.heap.size) (by omega) (.int .i64 uk) (.bool ub) (.int .i64 um) (.int .i64 us) (.string ut) (.bool ulo) (.bool uhi) (.slice ua ul uc)
            have R5 := R4.own8 R3 (r := w3.heap.size) (Nat.le_refl _) (.int .i64 uk) (.bool ub) (.int .i64 um) (.int .i64 us) (.string ut) (.bool ulo) (.bool uhi) (.slice ua ul uc)
            have M5 := M4.own8 (r := w3.heap.size) (by omega) (.int .i64 uk) (.bool ub) (.int .i64 um) (.int .i64 us) (.string ut) (.bool ulo) (.bool uhi) (.slice ua ul uc)
            have HT5 := ((unhide HIN4).set8 (r := w3.heap.size) (fun g hg => by omega) (.int .i64 uk) (.bool ub) (.int .i64 um) (.int .i64 us) (.string ut) (.bool ulo) (.bool uhi) (.slice ua ul uc)).weak (Q' := fun h => w.heap.size < h ∧ h ≠ w1.heap.size) (fun g _ hg => by omega)
            have HU5 := ((unhide HU).set8 (r := w3.heap.size) (fun g hg => by unfold Fr at hg; simp at hg; omega) (.int .i64 uk) (.bool ub) (.int .i64 um) (.int .i64 us) (.string ut) (.bool ulo) (.bool uhi) (.slice ua ul uc)).weak (Q' := fun h => w.heap.size < h ∧ h ≠ w1.heap.size) (fun g _ hg => by unfold Fr at hg; simp at hg; omega)
            have zW := HX5.1
            refine (binary_any (fun h => w.heap.size < h ∧ h ≠ w1.heap.size) _ _ op _ HT5 HU5 (fun g hg => by have := HX5.1; have := HZ5.1; omega)).mono ?_
            rintro e w5 ⟨V, rfl, hinV, hbV, b5⟩
            have HX6 := HX5.below b5
            have HZ6 := hide (HZ5.below b5)
            have R6 := R5.below b5
            have M6 := M5.below b5
            clear HX5 HZ5 R5 M5 HT5 HU5 zW b5 HX4 HZ4 R4 M4 HIN4 HU x0 x1 x2 x3 x4 x5 x6 x7 x8 x9 v0 v1 v2 v3 v4 v5 v6 v7 v8 v9 Y4
            have HV := hide hinV
            obtain ⟨pk, pb, pm, ps, pt, plo, phi, pa, pl, pc, pkid, rfl⟩ := hinV.form
            clear hinV
            have HX7 := hide HX6
            obtain ⟨x0, x1, x2, x3, x4, x5, x6, x7, x8, x9⟩ := HX6
            dsimp only [XT.val]
            go_wp2_with fail
            go_roundw
            case rel =>
              refine ⟨0, rfl, hide ?_, hide ((unhide HZ6).set8 (by omega) _ _ _ _ _ _ _ _), M6.own8 (by omega) _ _ _ _ _ _ _ _, by simpa [World.setCell] using x0⟩
              refine Or.inl ⟨rfl, k2, f2, _, pk, pb, pm, ps, pt, plo, phi, pa, pl, pc, pkid, rfl, by omega, R6.own8 (unhide R0) (by omega) _ _ _ _ _ _ _ _, (unhide HX7).put _ _ _ _ _ _ _ _ _ _, (unhide HV).set8 (fun g hg => hg.2) _ _ _ _ _ _ _ _, hf2, ?_⟩
              rw [hbV, hbU]
              exact (unhide HE).symm
            case measure =>
              rw [(R6.own8 (unhide R0) (r := w1.heap.size) (by omega) _ _ _ _ _ _ _ _).c1, (unhide R2').c1]
              simp [intOf]
              omega
      · have hf : (e1 == 0) = false := by simpa using he1
        obtain ⟨y0, y1, y2, y3, y4, y5, y6, y7, y8, y9⟩ := unhide HZ
        clear HA
        go_wp2_with fail
        refine bodyPost_ret (v := .tuple #[.agg #[.int .i64 0, .bool false, .int .i64 0, .int .i64 0, .string ⟨#[]⟩, .bool false, .bool false, .slice none 0 0], .int .i64 e1]) (by simp [results, Tryd.results32, go_sem, y1, y2, y3, y4, y5, y6, y7, y8]) rfl ?_
        rw [hres]
        exact post_er M2 R2 (unhide R0) hkk (Nat.le_refl _) he1 _ _ _ _ _ _ _ _
end Go.Proofs.YtdlfgnmcokdceabDoor

/- The contracts of the reader's expr, and, add, mul: chains. (Printed by mkfeel.py.) -/
namespace Go.Proofs.YtdlfgnmcokdceabDoor
open Go.RowKit
set_option linter.unusedVariables false
variable {b : Nat} {a : Option Addr} {cap : Nat} {ts : List Tk}

theorem e_unary : Enters 59 := enters Tryd.func59 (by kernel_rfl) rfl
set_option maxHeartbeats 2000000 in
theorem mul_any (d : Nat) (part : Nat → RX) (hp : PartOf b a cap ts 59 d part) (hts : GoodTs ts) : PartOf b a cap ts 56 d (chP ts part [[42], [47]]) := by
  intro w k R
  have R0 := hide R
  have hlt := R.lt
  clear R
  have HP := hide hp
  have HT := hide hts
  clear hp hts
  generalize hRES : chP ts part [[42], [47]] k = RES
  have HR := hide hRES
  clear hRES
  have z0 := hide (ZB.new w 28)
  go_enter Tryd.func56, Tryd.ntmps56
  go_wp2_with fail
  refine (chain_any 59 d part e_unary (unhide HP) _ [[42], [47]] _ (unhide HT) _ k (((unhide R0).alloc _).alloc _) (Marks.at (by simp) (by simp; omega) (by decide) (by decide)) (by decide)).mono ?_
  rw [unhide HR]
  clear HR
  cases RES with
  | er c1 k1 =>
    rintro e w1 ⟨m1, hk1, R1, hc1, rfl⟩
    have Z1 := ((unhide z0).alloc _).mv m1 (by omega)
    have M1 := ((Mv.of_below (b := b) (below1 w _)).alloc _).trans m1
    clear z0 m1
    unfold zV
    obtain ⟨y0, y1, y2, y3, y4, y5, y6, y7, y8, y9⟩ := Z1
    go_wp2_with fail
    refine bodyPost_ret (v := .tuple #[.agg #[.int .i64 0, .bool false, .int .i64 0, .int .i64 0, .string ⟨#[]⟩, .bool false, .bool false, .slice none 0 0], .int .i64 c1]) (by simp [results, Tryd.results56, go_sem, y1, y2, y3, y4, y5, y6, y7, y8]) rfl ?_
    exact post_er M1 R1 (unhide R0) hk1 (Nat.le_refl _) hc1 _ _ _ _ _ _ _ _
  | ok x1 k1 =>
    rintro e w1 ⟨m1, hk1, R1, T, rfl, hin, hbr⟩
    have Z1 := ((unhide z0).alloc _).mv m1 (by omega)
    have M1 := ((Mv.of_below (b := b) (below1 w _)).alloc _).trans m1
    clear z0 m1
    have HIN := hide hin
    obtain ⟨ek, eb, em, es, et, elo, ehi, ea, el, ec, ekid, rfl⟩ := hin.form
    clear hin
    obtain ⟨y0, y1, y2, y3, y4, y5, y6, y7, y8, y9⟩ := Z1
    dsimp only [XT.val]
    go_wp2_with fail
    refine bodyPost_ret (v := .tuple #[.agg #[.int .i64 ek, .bool eb, .int .i64 em, .int .i64 es, .string et, .bool elo, .bool ehi, .slice ea el ec], .int .i64 0]) (by simp [results, Tryd.results56, go_sem, y1, y2, y3, y4, y5, y6, y7, y8]) rfl ?_
    exact post_ok (B := w.heap.size + 2) M1 R1 (unhide R0) hk1 (Nat.le_refl _) (by omega) ((unhide HIN).weak (fun g _ hg => by unfold Fr at hg ⊢; simp at hg; omega)) hbr _ _ _ _ _ _ _ _

theorem e_mul : Enters 56 := enters Tryd.func56 (by kernel_rfl) rfl
set_option maxHeartbeats 2000000 in
theorem add_any (d : Nat) (part : Nat → RX) (hp : PartOf b a cap ts 56 d part) (hts : GoodTs ts) : PartOf b a cap ts 50 d (chP ts part [[43], [45]]) := by
  intro w k R
  have R0 := hide R
  have hlt := R.lt
  clear R
  have HP := hide hp
  have HT := hide hts
  clear hp hts
  generalize hRES : chP ts part [[43], [45]] k = RES
  have HR := hide hRES
  clear hRES
  have z0 := hide (ZB.new w 28)
  go_enter Tryd.func50, Tryd.ntmps50
  go_wp2_with fail
  refine (chain_any 56 d part e_mul (unhide HP) _ [[43], [45]] _ (unhide HT) _ k (((unhide R0).alloc _).alloc _) (Marks.at (by simp) (by simp; omega) (by decide) (by decide)) (by decide)).mono ?_
  rw [unhide HR]
  clear HR
  cases RES with
  | er c1 k1 =>
    rintro e w1 ⟨m1, hk1, R1, hc1, rfl⟩
    have Z1 := ((unhide z0).alloc _).mv m1 (by omega)
    have M1 := ((Mv.of_below (b := b) (below1 w _)).alloc _).trans m1
    clear z0 m1
    unfold zV
    obtain ⟨y0, y1, y2, y3, y4, y5, y6, y7, y8, y9⟩ := Z1
    go_wp2_with fail
    refine bodyPost_ret (v := .tuple #[.agg #[.int .i64 0, .bool false, .int .i64 0, .int .i64 0, .string ⟨#[]⟩, .bool false, .bool false, .slice none 0 0], .int .i64 c1]) (by simp [results, Tryd.results50, go_sem, y1, y2, y3, y4, y5, y6, y7, y8]) rfl ?_
    exact post_er M1 R1 (unhide R0) hk1 (Nat.le_refl _) hc1 _ _ _ _ _ _ _ _
  | ok x1 k1 =>
    rintro e w1 ⟨m1, hk1, R1, T, rfl, hin, hbr⟩
    have Z1 := ((unhide z0).alloc _).mv m1 (by omega)
    have M1 := ((Mv.of_below (b := b) (below1 w _)).alloc _).trans m1
    clear z0 m1
    have HIN := hide hin
    obtain ⟨ek, eb, em, es, et, elo, ehi, ea, el, ec, ekid, rfl⟩ := hin.form
    clear hin
    obtain ⟨y0, y1, y2, y3, y4, y5, y6, y7, y8, y9⟩ := Z1
    dsimp only [XT.val]
    go_wp2_with fail
    refine bodyPost_ret (v := .tuple #[.agg #[.int .i64 ek, .bool eb, .int .i64 em, .int .i64 es, .string et, .bool elo, .bool ehi, .slice ea el ec], .int .i64 0]) (by simp [results, Tryd.results50, go_sem, y1, y2, y3, y4, y5, y6, y7, y8]) rfl ?_
    exact post_ok (B := w.heap.size + 2) M1 R1 (unhide R0) hk1 (Nat.le_refl _) (by omega) ((unhide HIN).weak (fun g _ hg => by unfold Fr at hg ⊢; simp at hg; omega)) hbr _ _ _ _ _ _ _ _

theorem e_cmp : Enters 45 := enters Tryd.func45 (by kernel_rfl) rfl
set_option maxHeartbeats 2000000 in
theorem and_any (d : Nat) (part : Nat → RX) (hp : PartOf b a cap ts 45 d part) (hts : GoodTs ts) : PartOf b a cap ts 33 d (chP ts part [mAnd]) := by
  intro w k R
  have R0 := hide R
  have hlt := R.lt
  clear R
  have HP := hide hp
  have HT := hide hts
  clear hp hts
  generalize hRES : chP ts part [mAnd] k = RES
  have HR := hide hRES
  clear hRES
  have z0 := hide (ZB.new w 28)
  go_enter Tryd.func33, Tryd.ntmps33
  go_wp2_with fail
  refine (chain_any 45 d part e_cmp (unhide HP) _ [mAnd] _ (unhide HT) _ k (((unhide R0).alloc _).alloc _) (Marks.at (by simp) (by simp; omega) (by decide) (by decide)) (by decide)).mono ?_
  rw [unhide HR]
  clear HR
  cases RES with
  | er c1 k1 =>
    rintro e w1 ⟨m1, hk1, R1, hc1, rfl⟩
    have Z1 := ((unhide z0).alloc _).mv m1 (by omega)
    have M1 := ((Mv.of_below (b := b) (below1 w _)).alloc _).trans m1
    clear z0 m1
    unfold zV
    obtain ⟨y0, y1, y2, y3, y4, y5, y6, y7, y8, y9⟩ := Z1
    go_wp2_with fail
    refine bodyPost_ret (v := .tuple #[.agg #[.int .i64 0, .bool false, .int .i64 0, .int .i64 0, .string ⟨#[]⟩, .bool false, .bool false, .slice none 0 0], .int .i64 c1]) (by simp [results, Tryd.results33, go_sem, y1, y2, y3, y4, y5, y6, y7, y8]) rfl ?_
    exact post_er M1 R1 (unhide R0) hk1 (Nat.le_refl _) hc1 _ _ _ _ _ _ _ _
  | ok x1 k1 =>
    rintro e w1 ⟨m1, hk1, R1, T, rfl, hin, hbr⟩
    have Z1 := ((unhide z0).alloc _).mv m1 (by omega)
    have M1 := ((Mv.of_below (b := b) (below1 w _)).alloc _).trans m1
    clear z0 m1
    have HIN := hide hin
    obtain ⟨ek, eb, em, es, et, elo, ehi, ea, el, ec, ekid, rfl⟩ := hin.form
    clear hin
    obtain ⟨y0, y1, y2, y3, y4, y5, y6, y7, y8, y9⟩ := Z1
    dsimp only [XT.val]
    go_wp2_with fail
    refine bodyPost_ret (v := .tuple #[.agg #[.int .i64 ek, .bool eb, .int .i64 em, .int .i64 es, .string et, .bool elo, .bool ehi, .slice ea el ec], .int .i64 0]) (by simp [results, Tryd.results33, go_sem, y1, y2, y3, y4, y5, y6, y7, y8]) rfl ?_
    exact post_ok (B := w.heap.size + 2) M1 R1 (unhide R0) hk1 (Nat.le_refl _) (by omega) ((unhide HIN).weak (fun g _ hg => by unfold Fr at hg ⊢; simp at hg; omega)) hbr _ _ _ _ _ _ _ _

theorem e_and : Enters 33 := enters Tryd.func33 (by kernel_rfl) rfl
set_option maxHeartbeats 2000000 in
theorem expr_any (d : Nat) (part : Nat → RX) (hp : PartOf b a cap ts 33 d part) (hts : GoodTs ts) : PartOf b a cap ts 21 d (chP ts part [mOr]) := by
  intro w k R
  have R0 := hide R
  have hlt := R.lt
  clear R
  have HP := hide hp
  have HT := hide hts
  clear hp hts
  generalize hRES : chP ts part [mOr] k = RES
  have HR := hide hRES
  clear hRES
  have z0 := hide (ZB.new w 28)
  go_enter Tryd.func21, Tryd.ntmps21
  go_wp2_with fail
  refine (chain_any 33 d part e_and (unhide HP) _ [mOr] _ (unhide HT) _ k (((unhide R0).alloc _).alloc _) (Marks.at (by simp) (by simp; omega) (by decide) (by decide)) (by decide)).mono ?_
  rw [unhide HR]
  clear HR
  cases RES with
  | er c1 k1 =>
    rintro e w1 ⟨m1, hk1, R1, hc1, rfl⟩
    have Z1 := ((unhide z0).alloc _).mv m1 (by omega)
    have M1 := ((Mv.of_below (b := b) (below1 w _)).alloc _).trans m1
    clear z0 m1
    unfold zV
    obtain ⟨y0, y1, y2, y3, y4, y5, y6, y7, y8, y9⟩ := Z1
    go_wp2_with fail
    refine bodyPost_ret (v := .tuple #[.agg #[.int .i64 0, .bool false, .int .i64 0, .int .i64 0, .string ⟨#[]⟩, .bool false, .bool false, .slice none 0 0], .int .i64 c1]) (by simp [results, Tryd.results21, go_sem, y1, y2, y3, y4, y5, y6, y7, y8]) rfl ?_
    exact post_er M1 R1 (unhide R0) hk1 (Nat.le_refl _) hc1 _ _ _ _ _ _ _ _
  | ok x1 k1 =>
    rintro e w1 ⟨m1, hk1, R1, T, rfl, hin, hbr⟩
    have Z1 := ((unhide z0).alloc _).mv m1 (by omega)
    have M1 := ((Mv.of_below (b := b) (below1 w _)).alloc _).trans m1
    clear z0 m1
    have HIN := hide hin
    obtain ⟨ek, eb, em, es, et, elo, ehi, ea, el, ec, ekid, rfl⟩ := hin.form
    clear hin
    obtain ⟨y0, y1, y2, y3, y4, y5, y6, y7, y8, y9⟩ := Z1
    dsimp only [XT.val]
    go_wp2_with fail
    refine bodyPost_ret (v := .tuple #[.agg #[.int .i64 ek, .bool eb, .int .i64 em, .int .i64 es, .string et, .bool elo, .bool ehi, .slice ea el ec], .int .i64 0]) (by simp [results, Tryd.results21, go_sem, y1, y2, y3, y4, y5, y6, y7, y8]) rfl ?_
    exact post_ok (B := w.heap.size + 2) M1 R1 (unhide R0) hk1 (Nat.le_refl _) (by omega) ((unhide HIN).weak (fun g _ hg => by unfold Fr at hg ⊢; simp at hg; omega)) hbr _ _ _ _ _ _ _ _
end Go.Proofs.YtdlfgnmcokdceabDoor

/- The contract of the reader's behind. -/
namespace Go.Proofs.YtdlfgnmcokdceabDoor
open Go.RowKit
set_option linter.unusedVariables false
variable {b : Nat} {a : Option Addr} {cap : Nat} {ts : List Tk}

/- what behind answers. -/
def BehPost (b : Nat) (a : Option Addr) (cap : Nat) (ts : List Tk) (R : RM) (k : Nat) (w : World) (e : Ending) (w' : World) : Prop :=
  Mv b w w' ∧ match R with
  | .ok m x k' => k ≤ k' ∧ Rd b a cap ts w' k' ∧ ∃ T : XT, e = .returned (.tuple #[.string ⟨m.toArray⟩, T.val, .int .i64 0]) ∧ T.In (Fr w.heap.size) w' ∧ T.bare = x
  | .er m c k' => k ≤ k' ∧ Rd b a cap ts w' k' ∧ (c != 0) = true ∧ e = .returned (.tuple #[.string ⟨m.toArray⟩, zV, .int .i64 c])

set_option maxHeartbeats 4000000 in
theorem behind_any (d : Nat) (e1 : Nat → RX) (hp : PartOf b a cap ts 21 d e1) (hts : GoodTs ts) (g : Nat) (ms : List Mk) (c : Nat) (w : World) (k : Nat) (R : Rd b a cap ts w k) (hg : Marks b w g ms) (hne : ∀ m ∈ ms, m ≠ []) :
    Calls Tryd.prog 57 #[.pointer (some ⟨b, 0, none⟩), .int .i64 (d : Int), .slice (some ⟨g, 0, none⟩) ms.length c] w fun e w' => BehPost b a cap ts (behP ts e1 ms k) k w e w' := by
  have R0 := hide R
  have hlt := R.lt
  have HP := hide hp
  have HT := hide hts
  have HN := hide hne
  have HG := hide hg
  clear R hp hts hg hne
  have HR := hide (show behP ts e1 ms k = match fnd ts k ms with | none => .er [] 2 k | some m => (match e1 (k + 1) with | .er e k' => .er m e k' | .ok x k' => .ok m x k') from rfl)
  generalize behP ts e1 ms k = RES at *
  have z0 := hide (ZB.new w 28)
  go_enter Tryd.func57, Tryd.ntmps57
  go_wp2_with fail
  have P := hide (pass_any _ k g ms c ((unhide R0).alloc (zO 28)) (unhide HT) ((unhide HG).mv (Mv.of_below (below1 w _))))
  cases hfd : fnd ts k ms with
  | none =>
    rw [hfd] at P HR
    clear hfd
    refine (unhide P).mono ?_
    rintro e w1 ⟨m1, rfl, R1⟩
    obtain ⟨y0, y1, y2, y3, y4, y5, y6, y7, y8, y9⟩ := (unhide z0).mv m1 (by omega)
    have M1 := (Mv.of_below (b := b) (below1 w _)).trans m1
    clear z0 m1 P
    go_wp2_with fail
    refine bodyPost_ret (v := .tuple #[.string ⟨#[]⟩, .agg #[.int .i64 0, .bool false, .int .i64 0, .int .i64 0, .string ⟨#[]⟩, .bool false, .bool false, .slice none 0 0], .int .i64 2]) (by simp [results, Tryd.results57, go_sem, y1, y2, y3, y4, y5, y6, y7, y8]) rfl ?_
    rw [unhide HR]
    exact ⟨M1.own8 (Nat.le_refl _) _ _ _ _ _ _ _ _, Nat.le_refl _, R1.own8 (unhide R0) (Nat.le_refl _) _ _ _ _ _ _ _ _, rfl, rfl⟩
  | some m =>
    rw [hfd] at P HR
    have hm := unhide HN m (fnd_lt hfd).2
    have hmne : (m == []) = false := by simpa using hm
    clear hfd hm
    refine (unhide P).mono ?_
    rintro e w1 ⟨m1, rfl, R1⟩
    have Z1 := (unhide z0).mv m1 (by omega)
    have M1 := (Mv.of_below (b := b) (below1 w _)).trans m1
    have z1 : w.heap.size + 1 ≤ w1.heap.size := by have := m1.size; simpa using this
    clear z0 m1 P
    have Z1' := hide Z1
    clear Z1
    have C2 := unhide HP _ (k + 1) R1
    cases hp2 : e1 (k + 1) with
    | er c2 k2 =>
      rw [hp2] at C2 HR
      clear hp2
      go_wp2_with fail
      refine C2.mono ?_
      clear C2
      rintro e w2 ⟨m2, hk2, R2, hc2, rfl⟩
      obtain ⟨y0, y1, y2, y3, y4, y5, y6, y7, y8, y9⟩ := (unhide Z1').mv m2 (by omega)
      have M2 := M1.trans m2
      clear m2 M1 Z1'
      unfold zV
      go_wp2_with fail
      go_region
      go_wp2_with fail
      refine bodyPost_ret (v := .tuple #[.string ⟨m.toArray⟩, .agg #[.int .i64 0, .bool false, .int .i64 0, .int .i64 0, .string ⟨#[]⟩, .bool false, .bool false, .slice none 0 0], .int .i64 c2]) (by simp [results, Tryd.results57, go_sem, y0, y1, y2, y3, y4, y5, y6, y7, y8]) rfl ?_
      rw [unhide HR]
      have R0' := unhide R0
      exact ⟨by (repeat (first | with_reducible assumption | with_reducible exact Mv.refl _ _ | with_reducible refine Mv.alloc ?_ _ | (with_reducible refine Mv.own ?_ ?_ _; rotate_left; (focus (first | omega | (simp; done) | (simp; omega) | (dsimp only; omega)))) | with_reducible refine Mv.put ?_ _ _ | with_reducible refine Mv.drewN ?_ _ | with_reducible refine Mv.drew ?_)), by omega, by (repeat (first | with_reducible assumption | with_reducible refine Rd.alloc ?_ _ | (with_reducible refine Rd.own ?_ (by with_reducible assumption) ?_ _; rotate_left; (focus (first | omega | (simp; done) | (simp; omega) | (dsimp only; omega)))) | with_reducible refine Rd.drewN ?_ _ | with_reducible refine Rd.drew ?_)), hc2, rfl⟩
    | ok x2 k2 =>
      rw [hp2] at C2 HR
      clear hp2
      go_wp2_with fail
      refine C2.mono ?_
      clear C2
      rintro e w2 ⟨m2, hk2, R2, T, rfl, hin, hbr⟩
      obtain ⟨y0, y1, y2, y3, y4, y5, y6, y7, y8, y9⟩ := (unhide Z1').mv m2 (by omega)
      have M2 := M1.trans m2
      have z2 := m2.size
      clear m2 M1 Z1'
      have HIN := hide hin
      obtain ⟨ek, eb, em, es, et, elo, ehi, ea, el, ec, ekid, rfl⟩ := hin.form
      clear hin
      dsimp only [XT.val]
      go_wp2_with fail
      go_region
      go_wp2_with fail
      refine bodyPost_ret (v := .tuple #[.string ⟨m.toArray⟩, .agg #[.int .i64 ek, .bool eb, .int .i64 em, .int .i64 es, .string et, .bool elo, .bool ehi, .slice ea el ec], .int .i64 0]) (by simp [results, Tryd.results57, go_sem, y0, y1, y2, y3, y4, y5, y6, y7, y8]) rfl ?_
      rw [unhide HR]
      have R0' := unhide R0
      have HI2 := ((unhide HIN).weak (Q' := fun g => w.heap.size < g) (fun g _ hg => by unfold Fr at hg; omega))
      refine ⟨by (repeat (first | with_reducible assumption | with_reducible exact Mv.refl _ _ | with_reducible refine Mv.alloc ?_ _ | (with_reducible refine Mv.own ?_ ?_ _; rotate_left; (focus (first | omega | (simp; done) | (simp; omega) | (dsimp only; omega)))) | with_reducible refine Mv.put ?_ _ _ | with_reducible refine Mv.drewN ?_ _ | with_reducible refine Mv.drew ?_)), by omega, by (repeat (first | with_reducible assumption | with_reducible refine Rd.alloc ?_ _ | (with_reducible refine Rd.own ?_ (by with_reducible assumption) ?_ _; rotate_left; (focus (first | omega | (simp; done) | (simp; omega) | (dsimp only; omega)))) | with_reducible refine Rd.drewN ?_ _ | with_reducible refine Rd.drew ?_)), _, rfl, ?_, hbr⟩
      refine XT.In.weak (Q := fun g => w.heap.size < g) ?_ (fun g _ hg => by unfold Fr; omega)
      (repeat (first | with_reducible assumption | with_reducible refine XT.In.alloc ?_ _ | with_reducible refine XT.In.drew ?_ | with_reducible refine XT.In.drewN ?_ _ | (with_reducible refine XT.In.set ?_ ?_ _; rotate_left; (intro g hg; (focus (first | omega | (simp; done) | (simp; omega) | (dsimp only; omega)))))))
end Go.Proofs.YtdlfgnmcokdceabDoor

/- The contract of the reader's within. -/
namespace Go.Proofs.YtdlfgnmcokdceabDoor
open Go.RowKit
set_option linter.unusedVariables false
set_option linter.unusedSimpArgs false
variable {b : Nat} {a : Option Addr} {cap : Nat} {ts : List Tk}

/- what a part of the reader answers that was handed an expression. -/
def PostQ (b : Nat) (a : Option Addr) (cap : Nat) (ts : List Tk) (Q : Nat → Prop) (R : RX) (k : Nat) (w : World) (e : Ending) (w' : World) : Prop :=
  Mv b w w' ∧ match R with
  | .ok x k' => k ≤ k' ∧ Rd b a cap ts w' k' ∧ ∃ T : XT, e = .returned (.tuple #[T.val, .int .i64 0]) ∧ T.In Q w' ∧ T.bare = x
  | .er c k' => k ≤ k' ∧ Rd b a cap ts w' k' ∧ (c != 0) = true ∧ e = .returned (.tuple #[zV, .int .i64 c])
theorem fnd_one (k : Nat) (m : Mk) : fnd ts k [m] = if mkB ts k m = true then some m else none := rfl

set_option maxHeartbeats 4000000 in
theorem within_any (d : Nat) (e1 : Nat → RX) (hp : PartOf b a cap ts 21 d e1) (hts : GoodTs ts) (Q : Nat → Prop) (x : XT) (w : World) (k : Nat) (R : Rd b a cap ts w k) (hx : x.In Q w) (hQ : ∀ g, w.heap.size ≤ g → Q g) (hQb : ∀ g, Q g → g ≠ b) :
    Calls Tryd.prog 51 #[.pointer (some ⟨b, 0, none⟩), x.val, .int .i64 (d : Int)] w fun e w' => PostQ b a cap ts Q (withinP ts e1 x.bare k) k w e w' := by
  have R0 := R
  have hlt := R.lt
  have HP := hide hp
  have HT := hide hts
  have HQ := hide hQ
  have HX := hide (hx.weak (Q' := fun g => Q g ∧ g ≠ b ∧ g < w.heap.size) (fun g h1 h2 => ⟨h2, hQb g h2, h1⟩))
  obtain ⟨xk, xb, xm, xs, xt, xlo, xhi, xa, xl, xc, xkid, rfl⟩ := hx.form
  have HR := hide (withinP.eq_1 ts e1 (XT.mk xk xb xm xs xt xlo xhi xa xl xc xkid).bare k)
  generalize withinP ts e1 (XT.mk xk xb xm xs xt xlo xhi xa xl xc xkid).bare k = RES at *
  clear R hp hts hQ hQb hx
  show Calls Tryd.prog 51 #[.pointer (some ⟨b, 0, none⟩), .agg #[.int .i64 xk, .bool xb, .int .i64 xm, .int .i64 xs, .string xt, .bool xlo, .bool xhi, .slice xa xl xc], .int .i64 (d : Int)] w _
  have XB0 := hide (XB.new w xk xb xm xs xt xlo xhi xa xl xc 28)
  generalize hwa : w.alloc (.cells #[.int .i64 xk, .bool xb, .int .i64 xm, .int .i64 xs, .string xt, .bool xlo, .bool xhi, .slice xa xl xc] 28) = wa at *
  have zb0 := hide (ZB.new wa 28)
  have za : wa.heap.size = w.heap.size + 1 := by rw [← hwa]; simp
  have Ma : Mv b w wa := by rw [← hwa]; exact (Mv.refl _ _).alloc _
  have Ra : Rd b a cap ts wa k := by rw [← hwa]; exact R0.alloc _
  have HXa := hide ((unhide HX).mv Ma (fun g hg => hg.2.1))
  clear HX
  go_enter Tryd.func51, Tryd.ntmps51
  go_wp2_with fail
  clear hwa
  have hQ := unhide HQ
  refine (behind_any d e1 (unhide HP) (unhide HT) _ [[91], [40]] _ _ k ((Ra.alloc _).alloc _) (Marks.at (by simp; omega) (by simp; omega) (by decide) (by decide)) (by decide)).mono ?_
  cases hB1 : behP ts e1 [[91], [40]] k with
  | er m1 c1 k1 =>
    rw [hB1] at HR
    clear hB1
    rintro e w1 ⟨n1, hk1, R1, hc1, rfl⟩
    have Z1 := ((unhide zb0).alloc _).mv n1 (by omega)
    have M1 := ((Ma.alloc _).alloc _).trans n1
    clear zb0 n1 HXa XB0
    obtain ⟨y0, y1, y2, y3, y4, y5, y6, y7, y8, y9⟩ := Z1
    rw [za] at y0 y1 y2 y3 y4 y5 y6 y7 y8 y9
    unfold zV
    go_wp2_with fail
    refine bodyPost_ret (v := .tuple #[.agg #[.int .i64 0, .bool false, .int .i64 0, .int .i64 0, .string ⟨#[]⟩, .bool false, .bool false, .slice none 0 0], .int .i64 c1]) (by simp [results, Tryd.results51, go_sem, y0, y1, y2, y3, y4, y5, y6, y7, y8]) rfl ?_
    rw [unhide HR]
    exact ⟨by (repeat (first | with_reducible assumption | with_reducible exact Mv.refl _ _ | with_reducible refine Mv.alloc ?_ _ | (with_reducible refine Mv.own ?_ ?_ _; rotate_left; (focus (first | omega | (simp; done) | (simp; omega) | (dsimp only; omega)))) | with_reducible refine Mv.put ?_ _ _ | with_reducible refine Mv.drewN ?_ _ | with_reducible refine Mv.drew ?_)), hk1, by (repeat (first | with_reducible assumption | with_reducible refine Rd.alloc ?_ _ | (with_reducible refine Rd.own ?_ R0 ?_ _; rotate_left; (focus (first | omega | (simp; done) | (simp; omega) | (dsimp only; omega)))) | with_reducible refine Rd.drewN ?_ _ | with_reducible refine Rd.drew ?_)), hc1, rfl⟩
  | ok m1 x1 k1 =>
    rw [hB1] at HR
    clear hB1
    rintro e w1 ⟨n1, hk1, R1, T, rfl, hin, hbr1⟩
    have Z1 := hide (((unhide zb0).alloc _).mv n1 (by omega))
    have X1 := hide ((((unhide XB0).alloc _).alloc _).mv n1 (by omega))
    have HX1 := hide ((((unhide HXa).alloc _).alloc _).mv n1 (fun g hg => hg.2.1))
    have M1 := ((Ma.alloc _).alloc _).trans n1
    have z1 : w.heap.size + 3 ≤ w1.heap.size := by have := n1.size; simp at this; omega
    have HI1 := hide (hin.weak (Q' := fun g => w.heap.size + 3 ≤ g ∧ g < w1.heap.size) (fun g h1 h2 => by unfold Fr at h2; simp at h2; omega))
    clear zb0 n1 HXa XB0
    obtain ⟨lk, lb, lm, ls, lt, llo, lhi, la, ll, lc, lkid, rfl⟩ := hin.form
    clear hin
    dsimp only [XT.val]
    go_wp2_with fail
    have XL := hide (XB.new w1 lk lb lm ls lt llo lhi la ll lc 28)
    refine (behind_any d e1 (unhide HP) (unhide HT) _ [mDots] _ _ k1 ((R1.alloc _).alloc _) (Marks.at (by simp) (by simp; omega) (by decide) (by decide)) (by decide)).mono ?_
    cases hB2 : behP ts e1 [mDots] k1 with
    | er m2 c2 k2 =>
      rw [hB2] at HR
      clear hB2
      rintro e w2 ⟨n2, hk2, R2, hc2, rfl⟩
      have Z2 := (((unhide Z1).alloc _).alloc _).mv n2 (by omega)
      have M2 := ((M1.alloc _).alloc _).trans n2
      clear Z1 X1 HX1 XL HI1 n2
      obtain ⟨y0, y1, y2, y3, y4, y5, y6, y7, y8, y9⟩ := Z2
      rw [za] at y0 y1 y2 y3 y4 y5 y6 y7 y8 y9
      unfold zV
      go_wp2_with fail
      refine bodyPost_ret (v := .tuple #[.agg #[.int .i64 0, .bool false, .int .i64 0, .int .i64 0, .string ⟨#[]⟩, .bool false, .bool false, .slice none 0 0], .int .i64 c2]) (by simp [results, Tryd.results51, go_sem, y0, y1, y2, y3, y4, y5, y6, y7, y8]) rfl ?_
      rw [unhide HR]
      exact ⟨by (repeat (first | with_reducible assumption | with_reducible exact Mv.refl _ _ | with_reducible refine Mv.alloc ?_ _ | (with_reducible refine Mv.own ?_ ?_ _; rotate_left; (focus (first | omega | (simp; done) | (simp; omega) | (dsimp only; omega)))) | with_reducible refine Mv.put ?_ _ _ | with_reducible refine Mv.drewN ?_ _ | with_reducible refine Mv.drew ?_)), by omega, by (repeat (first | with_reducible assumption | with_reducible refine Rd.alloc ?_ _ | (with_reducible refine Rd.own ?_ R0 ?_ _; rotate_left; (focus (first | omega | (simp; done) | (simp; omega) | (dsimp only; omega)))) | with_reducible refine Rd.drewN ?_ _ | with_reducible refine Rd.drew ?_)), hc2, rfl⟩
    | ok m2 x2 k2 =>
      rw [hB2] at HR
      clear hB2
      rintro e w2 ⟨n2, hk2, R2, U, rfl, hin, hbr2⟩
      have Z2 := hide ((((unhide Z1).alloc _).alloc _).mv n2 (by omega))
      have X2 := hide ((((unhide X1).alloc _).alloc _).mv n2 (by omega))
      have L2 := hide (((unhide XL).alloc _).mv n2 (by omega))
      have HX2 := hide ((((unhide HX1).alloc _).alloc _).mv n2 (fun g hg => hg.2.1))
      have HL2 := hide ((((unhide HI1).alloc _).alloc _).mv n2 (fun g hg => by omega))
      have M2 := ((M1.alloc _).alloc _).trans n2
      have z2 : w1.heap.size + 2 ≤ w2.heap.size := by have := n2.size; simpa using this
      have HI2 := hide (hin.weak (Q' := fun g => w1.heap.size + 2 ≤ g ∧ g < w2.heap.size) (fun g h1 h2 => by unfold Fr at h2; simp at h2; omega))
      clear Z1 X1 HX1 XL HI1 n2
      obtain ⟨hk, hb, hm, hs, ht, hlo, hhi, ha, hl, hc, hkid, rfl⟩ := hin.form
      clear hin
      dsimp only [XT.val]
      go_wp2_with fail
      have XH := hide (XB.new w2 hk hb hm hs ht hlo hhi ha hl hc 28)
      refine (pass_any _ k2 _ [[93], [41]] _ ((R2.alloc _).alloc _) (unhide HT) (Marks.at (by simp) (by simp; omega) (by decide) (by decide))).mono ?_
      cases hF : fnd ts k2 [[93], [41]] with
      | none =>
        rw [hF] at HR
        clear hF
        rintro e w3 ⟨n3, rfl, R3⟩
        have Z3 := (((unhide Z2).alloc _).alloc _).mv n3 (by omega)
        have M3 := ((M2.alloc _).alloc _).trans n3
        clear Z2 X2 L2 HX2 HL2 HI2 XH n3
        obtain ⟨y0, y1, y2, y3, y4, y5, y6, y7, y8, y9⟩ := Z3
        rw [za] at y0 y1 y2 y3 y4 y5 y6 y7 y8 y9
        go_wp2_with fail
        refine bodyPost_ret (v := .tuple #[.agg #[.int .i64 0, .bool false, .int .i64 0, .int .i64 0, .string ⟨#[]⟩, .bool false, .bool false, .slice none 0 0], .int .i64 2]) (by simp [results, Tryd.results51, go_sem, y0, y1, y2, y3, y4, y5, y6, y7, y8]) rfl ?_
        rw [unhide HR]
        exact ⟨by (repeat (first | with_reducible assumption | with_reducible exact Mv.refl _ _ | with_reducible refine Mv.alloc ?_ _ | (with_reducible refine Mv.own ?_ ?_ _; rotate_left; (focus (first | omega | (simp; done) | (simp; omega) | (dsimp only; omega)))) | with_reducible refine Mv.put ?_ _ _ | with_reducible refine Mv.drewN ?_ _ | with_reducible refine Mv.drew ?_)), by omega, by (repeat (first | with_reducible assumption | with_reducible refine Rd.alloc ?_ _ | (with_reducible refine Rd.own ?_ R0 ?_ _; rotate_left; (focus (first | omega | (simp; done) | (simp; omega) | (dsimp only; omega)))) | with_reducible refine Rd.drewN ?_ _ | with_reducible refine Rd.drew ?_)), rfl, rfl⟩
      | some c3 =>
        rw [hF] at HR
        have hc3 := (fnd_lt hF).2
        have hne : (c3 == []) = false := by simp at hc3; rcases hc3 with rfl | rfl <;> rfl
        clear hF hc3
        rintro e w3 ⟨n3, rfl, R3⟩
        have Z3 := (((unhide Z2).alloc _).alloc _).mv n3 (by omega)
        have X3 := (((unhide X2).alloc _).alloc _).mv n3 (by omega)
        have L3 := (((unhide L2).alloc _).alloc _).mv n3 (by omega)
        have H3 := ((unhide XH).alloc _).mv n3 (by omega)
        have HX3 := hide ((((unhide HX2).alloc _).alloc _).mv n3 (fun g hg => hg.2.1))
        have HL3 := hide ((((unhide HL2).alloc _).alloc _).mv n3 (fun g hg => by omega))
        have HH3 := hide ((((unhide HI2).alloc _).alloc _).mv n3 (fun g hg => by omega))
        have M3 := ((M2.alloc _).alloc _).trans n3
        have z3 : w2.heap.size + 2 ≤ w3.heap.size := by have := n3.size; simpa using this
        clear Z2 X2 L2 HX2 HL2 HI2 XH n3
        obtain ⟨y0, y1, y2, y3, y4, y5, y6, y7, y8, y9⟩ := Z3
        rw [za] at y0 y1 y2 y3 y4 y5 y6 y7 y8 y9
        obtain ⟨p0, p1, p2, p3, p4, p5, p6, p7, p8, p9⟩ := X3
        obtain ⟨q0, q1, q2, q3, q4, q5, q6, q7, q8, q9⟩ := L3
        obtain ⟨r0, r1, r2, r3, r4, r5, r6, r7, r8, r9⟩ := H3
        go_wp2_with fail
        refine bodyPost_ret (v := .tuple #[.agg #[.int .i64 11, .bool false, .int .i64 0, .int .i64 0, .string ⟨#[]⟩, .bool (m1 == [91]), .bool (c3 == [93]), .slice (some ⟨w3.heap.size, 0, none⟩) 3 3], .int .i64 0]) (by simp [results, Tryd.results51, go_sem, y0, y1, y2, y3, y4, y5, y6, y7, y8]) rfl ?_
        rw [unhide HR]
        refine ⟨by (repeat (first | with_reducible assumption | with_reducible exact Mv.refl _ _ | with_reducible refine Mv.alloc ?_ _ | (with_reducible refine Mv.own ?_ ?_ _; rotate_left; (focus (first | omega | (simp; done) | (simp; omega) | (dsimp only; omega)))) | with_reducible refine Mv.put ?_ _ _ | with_reducible refine Mv.drewN ?_ _ | with_reducible refine Mv.drew ?_)), by omega, by (repeat (first | with_reducible assumption | with_reducible refine Rd.alloc ?_ _ | (with_reducible refine Rd.own ?_ R0 ?_ _; rotate_left; (focus (first | omega | (simp; done) | (simp; omega) | (dsimp only; omega)))) | with_reducible refine Rd.drewN ?_ _ | with_reducible refine Rd.drew ?_)), .mk 11 false 0 0 ⟨#[]⟩ (m1 == [91]) (c3 == [93]) (some ⟨w3.heap.size, 0, none⟩) 3 3 (fun i => [XT.mk xk xb xm xs xt xlo xhi xa xl xc xkid, XT.mk lk lb lm ls lt llo lhi la ll lc lkid, XT.mk hk hb hm hs ht hlo hhi ha hl hc hkid].getD i .none), rfl, ?_, ?_⟩
        · refine in_row (hQ _ (by omega)) [XT.mk xk xb xm xs xt xlo xhi xa xl xc xkid, XT.mk lk lb lm ls lt llo lhi la ll lc lkid, XT.mk hk hb hm hs ht hlo hhi ha hl hc hkid] (by simp [maxLen]) (row_block (by first | exact heap_at (by simp [World.setCell]) _) _ (by simp [mk_cells]) rfl) ?_ 11 false 0 0 ⟨#[]⟩ _ _ 3
          simp only [List.mem_cons, List.not_mem_nil, or_false, forall_eq_or_imp, forall_eq]
          have HX4 := unhide HX3
          have HL4 := unhide HL3
          have HH4 := unhide HH3
          refine ⟨XT.In.weak (Q := fun g => Q g ∧ g ≠ b ∧ g < w.heap.size) ?_ (fun g _ hg => hg.1), XT.In.weak (Q := fun g => w.heap.size + 3 ≤ g ∧ g < w1.heap.size) ?_ (fun g _ hg => hQ g (by omega)), XT.In.weak (Q := fun g => w1.heap.size + 2 ≤ g ∧ g < w2.heap.size) ?_ (fun g _ hg => hQ g (by omega))⟩
          · (repeat (first | with_reducible assumption | with_reducible refine XT.In.alloc ?_ _ | with_reducible refine XT.In.drew ?_ | with_reducible refine XT.In.drewN ?_ _ | (with_reducible refine XT.In.set ?_ ?_ _; rotate_left; (intro g hg; (focus (first | omega | (simp; done) | (simp; omega) | (dsimp only; omega)))))))
          · (repeat (first | with_reducible assumption | with_reducible refine XT.In.alloc ?_ _ | with_reducible refine XT.In.drew ?_ | with_reducible refine XT.In.drewN ?_ _ | (with_reducible refine XT.In.set ?_ ?_ _; rotate_left; (intro g hg; (focus (first | omega | (simp; done) | (simp; omega) | (dsimp only; omega)))))))
          · (repeat (first | with_reducible assumption | with_reducible refine XT.In.alloc ?_ _ | with_reducible refine XT.In.drew ?_ | with_reducible refine XT.In.drewN ?_ _ | (with_reducible refine XT.In.set ?_ ?_ _; rotate_left; (intro g hg; (focus (first | omega | (simp; done) | (simp; omega) | (dsimp only; omega)))))))
        · rw [← hbr1, ← hbr2]
          exact XT.bare_mk 11 false 0 0 ⟨#[]⟩ (m1 == [91]) (c3 == [93]) (some ⟨w3.heap.size, 0, none⟩) 3 [XT.mk xk xb xm xs xt xlo xhi xa xl xc xkid, XT.mk lk lb lm ls lt llo lhi la ll lc lkid, XT.mk hk hb hm hs ht hlo hhi ha hl hc hkid]
end Go.Proofs.YtdlfgnmcokdceabDoor

/- A row of expressions that grows. -/
namespace Go.Proofs.YtdlfgnmcokdceabDoor
open Go.RowKit
set_option linter.unusedVariables false
set_option linter.unusedSimpArgs false
variable {b : Nat} {a : Option Addr} {cap : Nat} {ts : List Tk}

/- the row lies from B on, its expressions too, and not in the row itself. -/
def Kids (B : Nat) (w : World) (v : Value) (l : List XT) : Prop :=
  w.ownsRow B 28 8 v l.length (xsC l) ∧ ∀ x ∈ l, x.In (fun h => B ≤ h ∧ some h ≠ v.ownBlock) w
theorem Kids.nil (B : Nat) (w : World) : Kids B w (.slice none 0 0) [] := ⟨World.ownsRow_nil _ _ _ _, fun x hx => absurd hx List.not_mem_nil⟩
theorem Kids.by {B : Nat} {w w' : World} {v : Value} {l : List XT} (h : Kids B w v l) (hb : ∀ g, g < w.heap.size → B ≤ g → w'.heap[g]? = w.heap[g]?) : Kids B w' v l := by
  refine ⟨⟨h.1.1, ?_⟩, fun x hx => (h.2 x hx).keep (fun bl o hl hq => World.cell?_of_block (w := w) (hb bl hl hq.1))⟩
  rcases h.1.2 with h0 | ⟨g, cap, cur, hv, hB, hg, hr⟩
  · exact Or.inl h0
  · exact Or.inr ⟨g, cap, cur, hv, hB, (hb g (Array.getElem?_eq_some_iff.1 hg).1 hB).trans hg, hr⟩
theorem Kids.mv {B : Nat} {w w' : World} {v : Value} {l : List XT} (h : Kids B w v l) (m : Mv b w w') (hb : b < B) : Kids B w' v l := h.by (fun g hg hB => m.block g hg (by omega))
theorem Kids.below {B : Nat} {w w' : World} {v : Value} {l : List XT} (h : Kids B w v l) (m : Below w.heap.size w w') : Kids B w' v l := h.by (fun g hg _ => m.block g hg)
theorem Kids.alloc {B : Nat} {w : World} {v : Value} {l : List XT} (h : Kids B w v l) (o : Obj) : Kids B (w.alloc o) v l := h.below (below1 w o)
theorem Kids.lt {B : Nat} {w : World} {v : Value} {l : List XT} (h : Kids B w v l) : ∀ g, v.ownBlock = some g → B ≤ g ∧ g < w.heap.size := by
  intro g hg
  rcases h.1.2 with ⟨rfl, _⟩ | ⟨g', cap, cur, rfl, hB, hh, hr⟩
  · cases hg
  · simp only [Value.ownBlock, Option.some.injEq] at hg
    subst hg
    exact ⟨hB, (Array.getElem?_eq_some_iff.1 hh).1⟩
theorem Kids.form {B : Nat} {w : World} {v : Value} {l : List XT} (h : Kids B w v l) : ∃ ka kc, v = .slice ka l.length kc := by
  rcases h.1.2 with ⟨rfl, hn⟩ | ⟨g', cap, cur, rfl, hB, hh, hr⟩
  · exact ⟨none, 0, by rw [hn]⟩
  · exact ⟨_, _, rfl⟩
theorem xsC_len (l : List XT) (hl : ∀ x ∈ l, x.cells.length = 8) : (xsC l).length = l.length * 8 := by
  induction l with
  | nil => rfl
  | cons x l ih => rw [xsC, List.flatMap_cons, List.length_append, ← xsC, ih (fun y hy => hl y (by simp [hy])), hl x (by simp)]; simp; omega
theorem xsC_get (l : List XT) (hl : ∀ x ∈ l, x.cells.length = 8) : ∀ i (h : i < l.length) j, j < 8 → (xsC l)[i * 8 + j]? = l[i].cells[j]? := by
  induction l with
  | nil => intro i h; exact absurd h (Nat.not_lt_zero _)
  | cons x l ih =>
    intro i hi j hj
    have hx := hl x (by simp)
    rw [xsC, List.flatMap_cons]
    cases i with
    | zero => rw [List.getElem?_append_left (by omega)]; simp
    | succ i =>
      rw [List.getElem?_append_right (by omega)]
      have e : (i + 1) * 8 + j - x.cells.length = i * 8 + j := by omega
      rw [e, ← xsC, ih (fun y hy => hl y (by simp [hy])) i (by simpa using hi) j hj]
      simp
theorem in_cells {Q : Nat → Prop} {w : World} {x : XT} (h : x.In Q w) : x.cells.length = 8 := by
  obtain ⟨k, b, m, s, t, lo, hi, a, len, cap, kid, rfl⟩ := h.form
  rfl
/- an expression of these kids. -/
theorem Kids.node {B : Nat} {w : World} {v : Value} {l : List XT} (h : Kids B w v l) (hl : l.length ≤ 1000) {ka : Option Addr} {n kc : Nat} (hv : v = .slice ka n kc) (k : Int) (b : Bool) (m s : Int) (t : ByteArray) (lo hi : Bool) :
    n = l.length ∧ (XT.mk k b m s t lo hi ka n kc (fun i => l.getD i .none)).In (Fr B) w := by
  have hin : ∀ x ∈ l, x.In (Fr B) w := fun x hx => (h.2 x hx).weak (fun g _ hg => hg.1)
  obtain ⟨ka', kc', hv'⟩ := h.form
  rw [hv] at hv'
  cases hv'
  refine ⟨rfl, ?_⟩
  by_cases h0 : l.length = 0
  · refine ⟨by simp [maxLen]; omega, fun i hi => ?_⟩
    rw [h0] at hi
    exact absurd hi (Nat.not_lt_zero _)
  · obtain ⟨g, cap, hg, hB, hlt⟩ := h.1.form (by omega)
    rw [hv] at hg
    cases hg
    refine in_row hB l (by simp [maxLen]; omega) (fun i hi j hj => ?_) hin k b m s t lo hi _
    rw [hv] at h
    rw [h.1.cellAt (i * 8 + j) (by omega)]
    exact xsC_get l (fun x hx => in_cells (hin x hx)) i hi j hj
theorem infoExpr : (Tryd.prog.info? 28).map (fun i => (i.zero, i.size, i.bytes)) = some (some zV, 8, 80) := by kernel_rfl
theorem xsC_snoc (l : List XT) (x : XT) : xsC (l ++ [x]) = xsC l ++ x.cells := by simp [xsC]

/- append of one expression. -/
theorem wpList_x {w : World} {ops : Array Oper} {rest : List Oper} {o : Oper} {ac : Act} {P : Exit → Act → World → Prop} (hgd : o.guard = none) (s x : Operand)
    (ho : o.op = .call { callee := .builtin .append, args := #[s, x], argTypes := #[26, 26] }) (B : Nat) (v : Value) (l : List XT) (hs : ac.eval s = v) (own : Kids B w v l)
    (g : Nat) {xk : Int} {xb : Bool} {xm xs : Int} {xt : ByteArray} {xlo xhi : Bool} {xa : Option Addr} {xl xc : Nat} {xkid : Nat → XT} (hT : (XT.mk xk xb xm xs xt xlo xhi xa xl xc xkid).In (fun h => B ≤ h ∧ some h ≠ v.ownBlock) w)
    (hx : ac.eval x = .slice (some ⟨g, 0, none⟩) 1 1) (hc : XB w g xk xb xm xs xt xlo xhi xa xl xc)
    (hn : l.length ≤ 1000) (hB : B ≤ w.heap.size)
    (h : ∀ v' w', Kids B w' v' (l ++ [XT.mk xk xb xm xs xt xlo xhi xa xl xc xkid]) → w.grownBy w' v.ownBlock → wpList Tryd.prog ops P rest (ac.put o.dst v') w') : wpList Tryd.prog ops P (o :: rest) ac w := by
  obtain ⟨i, hi, hzz⟩ := Option.map_eq_some_iff.1 infoExpr
  simp only [Prod.mk.injEq] at hzz
  obtain ⟨hz, hz1, hz2⟩ := hzz
  refine wpList_append_lies w hgd s x 26 ho B 28 i _ 8 80 Tryd.underlying26 hi hz hz1 hz2 rfl (by omega) v l.length (xsC l) hs own.1 ⟨g, 0, none⟩ 1 1 (XT.cells (XT.mk xk xb xm xs xt xlo xhi xa xl xc xkid)) hx rfl ?_ ?_ (by omega) (by unfold maxLen; omega) (by omega) hB _ rfl ?_
  · intro j u hu
    have hadd : (⟨g, 0, none⟩ : Addr).add j = ⟨g, j, none⟩ := by unfold Addr.add; split <;> simp_all
    rw [hadd]
    obtain ⟨h0, h1, h2, h3, h4, h5, h6, h7, h8, h9⟩ := hc
    match j, hu with
    | 0, hu => exact h1.trans hu
    | 1, hu => exact h2.trans hu
    | 2, hu => exact h3.trans hu
    | 3, hu => exact h4.trans hu
    | 4, hu => exact h5.trans hu
    | 5, hu => exact h6.trans hu
    | 6, hu => exact h7.trans hu
    | 7, hu => exact h8.trans hu
    | j + 8, hu => simp [XT.cells] at hu
  · intro u hu
    simp [XT.cells] at hu
    rcases hu with rfl | rfl | rfl | rfl | rfl | rfl | rfl | rfl <;> rfl
  · intro g' cap' w' own' gr hg' hlt
    have key : ∀ y : XT, y.In (fun h => B ≤ h ∧ some h ≠ v.ownBlock) w → y.In (fun h => B ≤ h ∧ some h ≠ (Value.slice (some ⟨g', 0, none⟩) (l.length + 1) cap').ownBlock) w' := by
      intro y hy
      have hy2 := hy.weak (Q' := fun h => (B ≤ h ∧ some h ≠ v.ownBlock) ∧ h < w.heap.size) (fun g h1 h2 => ⟨h2, h1⟩)
      have hy3 : y.In (fun h => (B ≤ h ∧ some h ≠ v.ownBlock) ∧ h < w.heap.size) w' := hy2.keep (fun bl o hl hq => World.cell?_of_block (w := w) (gr.block bl hl hq.1.2))
      refine hy3.weak (fun h _ hh => ⟨hh.1.1, fun e => ?_⟩)
      simp only [Value.ownBlock, Option.some.injEq] at e
      subst e
      rcases hg' with e | e
      · exact hh.1.2 e.symm
      · have := hh.2; omega
    refine h _ w' ⟨?_, ?_⟩ gr
    · rw [xsC_snoc, List.length_append]
      exact own'
    · intro y hy
      rw [List.mem_append] at hy
      rcases hy with hy | hy
      · exact key y (own.2 y hy)
      · rw [List.mem_singleton] at hy
        subst hy
        exact key _ hT

theorem Mv.grown {b : Nat} {w0 w w' : World} {row : Option Nat} (h : Mv b w0 w) (hg : w.grownBy w' row) (hr : ∀ k, row = some k → w0.heap.size ≤ k) : Mv b w0 w' :=
  ⟨hg.os.trans h.os, hg.tape.trans h.tape, hg.output.trans h.output, Nat.le_trans h.size hg.size, fun k hk hb => (hg.block k (Nat.lt_of_lt_of_le hk h.size) (fun e => by have := hr k e.symm; omega)).trans (h.block k hk hb)⟩
theorem Rd.grown {w w' w0 : World} {k k0 : Nat} {row : Option Nat} (h : Rd b a cap ts w k) (h0 : Rd b a cap ts w0 k0) (hg : w.grownBy w' row) (hr : ∀ k, row = some k → w0.heap.size ≤ k) : Rd b a cap ts w' k := by
  have e : ∀ g, g < w.heap.size → g < w0.heap.size → w'.heap[g]? = w.heap[g]? := fun g h1 h2 => hg.block g h1 (fun e => by have := hr g e.symm; omega)
  have ec : ∀ g o, g < w.heap.size → g < w0.heap.size → w'.cell? ⟨g, o, none⟩ = w.cell? ⟨g, o, none⟩ := fun g o h1 h2 => World.cell?_of_block (w := w) (e g h1 h2)
  have hb := h0.lt
  have hb1 := h.lt
  refine ⟨Nat.lt_of_lt_of_le hb1 hg.size, h.le, (ec b 0 hb1 hb).trans h.c0, (ec b 1 hb1 hb).trans h.c1, (World.frozen?_of_block (w := w) (e b hb1 hb)).trans h.fr, fun i hi => ?_⟩
  obtain ⟨g, hga, hgb, t0, t1, t2, t3⟩ := h.row i hi
  obtain ⟨g', hg', -, s0, -⟩ := h0.row i hi
  obtain rfl : g = g' := by rw [hga] at hg'; simpa using hg'
  exact ⟨g, hga, hgb, Nat.lt_of_lt_of_le t0 hg.size, (ec g _ t0 s0).trans t1, (ec g _ t0 s0).trans t2, (ec g _ t0 s0).trans t3⟩
theorem XB.grown {w w' : World} {row : Option Nat} {g : Nat} {k : Int} {b : Bool} {m s : Int} {t : ByteArray} {lo hi : Bool} {a : Option Addr} {len cap : Nat} (h : XB w g k b m s t lo hi a len cap) (hg : w.grownBy w' row) (hr : ∀ k, row = some k → g ≠ k) : XB w' g k b m s t lo hi a len cap :=
  h.by hg.size (hg.block g h.1 (fun e => hr g e.symm rfl))
end Go.Proofs.YtdlfgnmcokdceabDoor

/- The contract of the reader's rest: the expressions of a call or a list. -/
namespace Go.Proofs.YtdlfgnmcokdceabDoor
open Go.RowKit
set_option linter.unusedVariables false
set_option linter.unusedSimpArgs false
variable {b : Nat} {a : Option Addr} {cap : Nat} {ts : List Tk}

/- what rest answers. -/
def RestPost (b : Nat) (a : Option Addr) (cap : Nat) (ts : List Tk) (R : RL) (k : Nat) (w : World) (e : Ending) (w' : World) : Prop :=
  Mv b w w' ∧ match R with
  | .ok l k' => k ≤ k' ∧ Rd b a cap ts w' k' ∧ ∃ (Ts : List XT) (v : Value), e = .returned (.tuple #[v, .int .i64 0]) ∧ Kids w.heap.size w' v Ts ∧ Ts.length ≤ 1000 ∧ Ts.map XT.bare = l
  | .er c k' => k ≤ k' ∧ Rd b a cap ts w' k' ∧ (c != 0) = true ∧ e = .returned (.tuple #[.slice none 0 0, .int .i64 c])

theorem restL_er {e1 : Nat → RX} {sh : Mk} {f : Nat} {acc : List XT} {k k' : Nat} {c : Int} (h : e1 k = .er c k') : restL ts e1 sh (f + 1) acc k = .er c k' := by rw [restL, h]
theorem restL_no {e1 : Nat → RX} {sh : Mk} {f : Nat} {acc : List XT} {x : XT} {k k' : Nat} (h : e1 k = .ok x k') (hf : fnd ts k' [[44], sh] = none) : restL ts e1 sh (f + 1) acc k = .er 2 k' := by rw [restL, h]; dsimp only; rw [hf]
theorem restL_go {e1 : Nat → RX} {sh : Mk} {f : Nat} {acc : List XT} {x : XT} {k k' : Nat} {m : Mk} (h : e1 k = .ok x k') (hf : fnd ts k' [[44], sh] = some m) : restL ts e1 sh (f + 1) acc k = if m = sh then .ok (acc ++ [x]) (k' + 1) else restL ts e1 sh f (acc ++ [x]) (k' + 1) := by rw [restL, h]; dsimp only; rw [hf]

set_option maxHeartbeats 4000000 in
theorem rest_any (d : Nat) (e1 : Nat → RX) (hp : PartOf b a cap ts 21 d e1) (hts : GoodTs ts) (sh : Mk) (hs0 : (sh == []) = false) (hs1 : ((([44] : Mk)) == sh) = false) (hsl : sh.length ≤ 1000) (w : World) (k : Nat) (R : Rd b a cap ts w k) :
    Calls Tryd.prog 72 #[.pointer (some ⟨b, 0, none⟩), .int .i64 (d : Int), .string ⟨sh.toArray⟩] w fun e w' => RestPost b a cap ts (restP ts e1 sh k) k w e w' := by
  have R0 := R
  have hlt := R.lt
  have HP := hide hp
  have HT := hide hts
  have hn := hts.1
  clear R hp hts
  have HR := hide (restP.eq_1 ts e1 sh k)
  generalize restP ts e1 sh k = RES at *
  go_enter Tryd.func72, Tryd.ntmps72
  go_wp2_with fail
  refine (pass_any _ k _ [sh] _ (R0.alloc _) (unhide HT) (Marks.at (by simp) hlt (by simp) (by simpa using hsl))).mono ?_
  rw [fnd_one]
  cases hF : mkB ts k sh with
  | true =>
    rw [if_pos rfl]
    rw [hF, if_pos rfl] at HR
    clear hF
    rintro e w1 ⟨n1, rfl, R1⟩
    have M1 := ((Mv.refl b w).alloc _).trans n1
    have e0 : (sh != []) = true := by simpa using hs0
    go_wp2_with fail
    go_ret2
    rw [unhide HR]
    exact ⟨M1, by omega, R1, [], _, rfl, Kids.nil _ _, by simp, rfl⟩
  | false =>
    rw [if_neg (by decide)]
    rw [hF, if_neg (by decide)] at HR
    clear hF
    rintro e w1 ⟨n1, rfl, R1⟩
    have M1 := ((Mv.refl b w).alloc _).trans n1
    clear n1
    go_wp2_with fail
    go_loopw [8] (fun v wr => ∃ (kk f : Nat) (Ts : List XT), k ≤ kk ∧ Ts.length ≤ kk ∧ ts.length - kk + 1 ≤ f ∧ Rd b a cap ts wr kk ∧ Mv b w wr ∧ Hid (Kids w.heap.size wr v Ts) ∧ Hid (RES = restL ts e1 sh f (Ts.map XT.bare) kk)) (fun _ wr => ts.length - (intOf ((wr.cell? ⟨b, 1, none⟩).getD (.int .i64 0))).toNat)
    case atStart => exact ⟨k, ts.length + 1, [], Nat.le_refl _, Nat.zero_le _, by omega, R1, M1, hide (Kids.nil _ _), HR⟩
    case round =>
      clear HR M1 R1
      obtain ⟨kk, f, Ts, hkk, hTl, hf, R2, M2, HK, HR⟩ := hrel
      obtain ⟨f, rfl⟩ : ∃ f', f = f' + 1 := ⟨f - 1, by omega⟩
      have hkn := R2.le
      have hz2 := M2.size
      obtain ⟨ka, kc, rfl⟩ := (unhide HK).form
      go_wp2_with fail
      refine (unhide HP _ kk R2).mono ?_
      cases hE : e1 kk with
      | er c3 k3 =>
        have HE := hide ((unhide HR).trans (restL_er hE))
        clear hE HR
        rintro e w3 ⟨n3, hk3, R3, hc3, rfl⟩
        have M3 := M2.trans n3
        unfold zV
        go_wp2_with fail
        go_ret2
        rw [unhide HE]
        exact ⟨M3.alloc _, by omega, R3.alloc _, hc3, rfl⟩
      | ok x3 k3 =>
        rintro e w3 ⟨n3, hk3, R3, T, rfl, hin, hbr⟩
        have M3 := M2.trans n3
        have hz3 := n3.size
        have HK3 := hide ((unhide HK).mv n3 hlt)
        have HI3 := hide (hin.weak (Q' := fun h => w.heap.size ≤ h ∧ some h ≠ (Value.slice ka Ts.length kc).ownBlock) (fun g h1 h2 => by
          unfold Fr at h2
          refine ⟨by omega, fun e => ?_⟩
          have := (unhide HK).lt g e.symm
          omega))
        clear n3
        have HR' := hide (unhide HR)
        clear HR HK
        obtain ⟨xk, xb, xm, xs, xt, xlo, xhi, xa, xl, xc, xkid, rfl⟩ := hin.form
        clear hin
        dsimp only [XT.val]
        have XX := hide (XB.new w3 xk xb xm xs xt xlo xhi xa xl xc 28)
        go_wp2_with (at_builtin; go_must (refine wpList_x rfl _ _ rfl w.heap.size _ Ts rfl (((unhide HK3).alloc _).alloc _) (w3.heap.size + 1) (((unhide HI3).alloc _).alloc _) rfl (XB.at (by simp)) (by omega) (by simp; omega) ?_); intro v' w4 K4 gr4)
        have hown : ∀ g, (Value.slice ka Ts.length kc).ownBlock = some g → w.heap.size ≤ g := fun g hg => ((unhide HK3).lt g hg).1
        have M4 := ((M3.alloc _).alloc _).grown gr4 hown
        have R4 := ((R3.alloc _).alloc _).grown R0 gr4 hown
        have K4' := hide K4
        have z4 := M4.size
        clear K4 gr4 HK3 HI3 XX hown M3 R3
        refine (pass_any _ k3 _ [[44], sh] _ (R4.alloc _) (unhide HT) (Marks.at rfl R4.lt (by simp) (by simpa using hsl))).mono ?_
        cases hF : fnd ts k3 [[44], sh] with
        | none =>
          have HE := hide ((unhide HR').trans (restL_no hE hF))
          clear hE hF HR'
          rintro e w5 ⟨n5, rfl, R5⟩
          have M5 := (M4.alloc _).trans n5
          have e0 : (([] : Mk) == sh) = false := by cases sh <;> simp_all
          go_wp2_with fail
          go_ret2
          rw [unhide HE]
          exact ⟨M5, by omega, R5, rfl, rfl⟩
        | some m =>
          have HE := hide ((unhide HR').trans (restL_go hE hF))
          have hm := (fnd_lt hF).2
          have hkl := (fnd_lt hF).1
          clear hE hF HR'
          rintro e w5 ⟨n5, rfl, R5⟩
          have M5 := (M4.alloc _).trans n5
          have K5 := hide (((unhide K4').alloc _).mv n5 hlt)
          simp only [List.mem_cons, List.not_mem_nil, or_false] at hm
          rcases hm with rfl | rfl
          · have HE2 := hide (show RES = restL ts e1 sh f ((Ts ++ [XT.mk xk xb xm xs xt xlo xhi xa xl xc xkid]).map XT.bare) (k3 + 1) by
              rw [unhide HE, if_neg (by simpa using hs1), List.map_append]
              simp [hbr])
            clear HE
            go_wp2_with fail
            go_roundw
            case rel => exact ⟨k3 + 1, f, Ts ++ [XT.mk xk xb xm xs xt xlo xhi xa xl xc xkid], by omega, by simp; omega, by omega, R5, M5, K5, HE2⟩
            case measure =>
              rw [R5.c1, R2.c1]
              simp [intOf]
              omega
          · have HE2 := hide (show RES = .ok ((Ts ++ [XT.mk xk xb xm xs xt xlo xhi xa xl xc xkid]).map XT.bare) (k3 + 1) by
              rw [unhide HE, if_pos rfl, List.map_append]
              simp [hbr])
            clear HE
            go_wp2_with fail
            go_ret2
            rw [unhide HE2]
            exact ⟨M5, by omega, R5, Ts ++ [XT.mk xk xb xm xs xt xlo xhi xa xl xc xkid], _, rfl, unhide K5, by simp; omega, rfl⟩
end Go.Proofs.YtdlfgnmcokdceabDoor

/- FBox FChain FExpr FBeh FWithin FKids: laid together. -/
import Derived.Test.YtejnmkhdnhggcaaDoorSAG
import Derived.Test.YtejnmkhdnhggcaaDoorSAF
import Derived.Deep.AppendLies
/- An expression that lies in a block of its own: a variable. -/
namespace Go.Proofs.YtejnmkhdnhggcaaDoor
open Go.RowKit
set_option linter.unusedVariables false

def XB (w : World) (g : Nat) (k : Int) (b : Bool) (m s : Int) (t : ByteArray) (lo hi : Bool) (a : Option Addr) (len cap : Nat) : Prop :=
  g < w.heap.size ∧ w.cell? ⟨g, 0, none⟩ = some (.int .i64 k) ∧ w.cell? ⟨g, 1, none⟩ = some (.bool b) ∧ w.cell? ⟨g, 2, none⟩ = some (.int .i64 m) ∧ w.cell? ⟨g, 3, none⟩ = some (.int .i64 s) ∧ w.cell? ⟨g, 4, none⟩ = some (.string t) ∧ w.cell? ⟨g, 5, none⟩ = some (.bool lo) ∧ w.cell? ⟨g, 6, none⟩ = some (.bool hi) ∧ w.cell? ⟨g, 7, none⟩ = some (.slice a len cap) ∧ ∀ o, w.frozen? ⟨g, o, none⟩ = false
theorem XB.by {w w' : World} {g : Nat} {k : Int} {b : Bool} {m s : Int} {t : ByteArray} {lo hi : Bool} {a : Option Addr} {len cap : Nat} (h : XB w g k b m s t lo hi a len cap) (hs : w.heap.size ≤ w'.heap.size) (hb : w'.heap[g]? = w.heap[g]?) : XB w' g k b m s t lo hi a len cap := by
  obtain ⟨h0, h1, h2, h3, h4, h5, h6, h7, h8, h9⟩ := h
  have hc : ∀ o, w'.cell? ⟨g, o, none⟩ = w.cell? ⟨g, o, none⟩ := fun o => World.cell?_of_block (w := w) hb
  have hf : ∀ o, w'.frozen? ⟨g, o, none⟩ = w.frozen? ⟨g, o, none⟩ := fun o => World.frozen?_of_block (w := w) hb
  exact ⟨Nat.lt_of_lt_of_le h0 hs, (hc _).trans h1, (hc _).trans h2, (hc _).trans h3, (hc _).trans h4, (hc _).trans h5, (hc _).trans h6, (hc _).trans h7, (hc _).trans h8, fun o => (hf o).trans (h9 o)⟩
section
variable {q : Nat} {w w' : World} {g : Nat} {k : Int} {b : Bool} {m s : Int} {t : ByteArray} {lo hi : Bool} {a : Option Addr} {len cap : Nat}
theorem XB.below (h : XB w g k b m s t lo hi a len cap) (hb : Below w.heap.size w w') : XB w' g k b m s t lo hi a len cap := h.by hb.size (hb.block g h.1)
theorem XB.mv (h : XB w g k b m s t lo hi a len cap) (hm : Mv q w w') (hq : g ≠ q) : XB w' g k b m s t lo hi a len cap := h.by hm.size (hm.block g h.1 hq)
theorem XB.alloc (h : XB w g k b m s t lo hi a len cap) (o : Obj) : XB (w.alloc o) g k b m s t lo hi a len cap := h.below (below1 w o)
theorem XB.set8 (h : XB w g k b m s t lo hi a len cap) {r : Nat} (hr : g ≠ r) (v0 v1 v2 v3 v4 v5 v6 v7 : Value) : XB ((((((((w.setCell ⟨r, 0, none⟩ v0).setCell ⟨r, 1, none⟩ v1).setCell ⟨r, 2, none⟩ v2).setCell ⟨r, 3, none⟩ v3).setCell ⟨r, 4, none⟩ v4).setCell ⟨r, 5, none⟩ v5).setCell ⟨r, 6, none⟩ v6).setCell ⟨r, 7, none⟩ v7) g k b m s t lo hi a len cap := by
  refine h.by (by simp [World.setCell]) ?_
  rw [Below.heap_setCell _ _ _ _ hr, Below.heap_setCell _ _ _ _ hr, Below.heap_setCell _ _ _ _ hr, Below.heap_setCell _ _ _ _ hr, Below.heap_setCell _ _ _ _ hr, Below.heap_setCell _ _ _ _ hr, Below.heap_setCell _ _ _ _ hr, Below.heap_setCell _ _ _ _ hr]
end
theorem XB.new (w : World) (k : Int) (b : Bool) (m s : Int) (t : ByteArray) (lo hi : Bool) (a : Option Addr) (len cap : Nat) (ty : TypeId) : XB (w.alloc (.cells #[.int .i64 k, .bool b, .int .i64 m, .int .i64 s, .string t, .bool lo, .bool hi, .slice a len cap] ty)) w.heap.size k b m s t lo hi a len cap :=
  ⟨by simp, by go_simp, by go_simp, by go_simp, by go_simp, by go_simp, by go_simp, by go_simp, by go_simp, fun o => by go_simp⟩
set_option maxHeartbeats 1000000 in
theorem XB.put {w : World} {g : Nat} {k : Int} {b : Bool} {m s : Int} {t : ByteArray} {lo hi : Bool} {a : Option Addr} {len cap : Nat} (h : XB w g k b m s t lo hi a len cap) (k' : Int) (b' : Bool) (m' s' : Int) (t' : ByteArray) (lo' hi' : Bool) (a' : Option Addr) (len' cap' : Nat) :
    XB ((((((((w.setCell ⟨g, 0, none⟩ (.int .i64 k')).setCell ⟨g, 1, none⟩ (.bool b')).setCell ⟨g, 2, none⟩ (.int .i64 m')).setCell ⟨g, 3, none⟩ (.int .i64 s')).setCell ⟨g, 4, none⟩ (.string t')).setCell ⟨g, 5, none⟩ (.bool lo')).setCell ⟨g, 6, none⟩ (.bool hi')).setCell ⟨g, 7, none⟩ (.slice a' len' cap')) g k' b' m' s' t' lo' hi' a' len' cap' := by
  obtain ⟨h0, h1, h2, h3, h4, h5, h6, h7, h8, h9⟩ := h
  exact ⟨by simpa [World.setCell] using h0, by go_simp, by go_simp, by go_simp, by go_simp, by go_simp, by go_simp, by go_simp, by go_simp, fun o => by go_simp⟩
theorem XB.at {w : World} {g : Nat} {k : Int} {b : Bool} {m s : Int} {t : ByteArray} {lo hi : Bool} {a : Option Addr} {len cap : Nat} {ty : TypeId} (hg : g = w.heap.size) : XB (w.alloc (.cells #[.int .i64 k, .bool b, .int .i64 m, .int .i64 s, .string t, .bool lo, .bool hi, .slice a len cap] ty)) g k b m s t lo hi a len cap := hg ▸ XB.new w k b m s t lo hi a len cap ty
/- no expression yet. -/
abbrev ZB (w : World) (g : Nat) : Prop := XB w g 0 false 0 0 ⟨#[]⟩ false false none 0 0
abbrev zO (ty : TypeId) : Obj := .cells #[.int .i64 0, .bool false, .int .i64 0, .int .i64 0, .string ⟨#[]⟩, .bool false, .bool false, .slice none 0 0] ty
theorem ZB.new (w : World) (ty : TypeId) : ZB (w.alloc (zO ty)) w.heap.size := XB.new w 0 false 0 0 ⟨#[]⟩ false false none 0 0 ty
end Go.Proofs.YtejnmkhdnhggcaaDoor

/- The contract of the reader's chain: parts with alike operators between them. -/
namespace Go.Proofs.YtejnmkhdnhggcaaDoor
open Go.RowKit
set_option linter.unusedVariables false
variable {b : Nat} {a : Option Addr} {cap : Nat} {ts : List Tk}

/- how a chain goes on. -/
theorem chainP_end {part : Nat → RX} {ops : List Mk} {f : Nat} {x : XT} {k : Nat} (h : fnd ts k ops = none) : chainP ts part ops f x k = .ok x k := by
  cases f with
  | zero => rfl
  | succ f => rw [chainP, h]
theorem fnd_lt {k : Nat} {ops : List Mk} {m : Mk} (h : fnd ts k ops = some m) : k < ts.length ∧ m ∈ ops := by
  induction ops with
  | nil => cases h
  | cons o ops ih =>
    rw [fnd] at h
    split at h
    · rename_i hm
      cases h
      exact ⟨mkB_lt hm, by simp⟩
    · obtain ⟨h1, h2⟩ := ih h
      exact ⟨h1, by simp [h2]⟩
theorem chainP_er {part : Nat → RX} {ops : List Mk} {f : Nat} {x : XT} {k k' : Nat} {op : Mk} {c : Int} (hf : ts.length - k ≤ f) (h : fnd ts k ops = some op) (hp : part (k + 1) = .er c k') : chainP ts part ops f x k = .er c k' := by
  have := (fnd_lt h).1
  cases f with
  | zero => omega
  | succ f => rw [chainP, h]; dsimp only; rw [hp]
theorem chainP_ok {part : Nat → RX} {ops : List Mk} {f : Nat} {x y : XT} {k k' : Nat} {op : Mk} (hf : ts.length - k ≤ f) (h : fnd ts k ops = some op) (hp : part (k + 1) = .ok y k') (hk : k + 1 ≤ k') :
    ∃ f', ts.length - k' ≤ f' ∧ chainP ts part ops f x k = chainP ts part ops f' (binX op x y) k' := by
  have := (fnd_lt h).1
  cases f with
  | zero => omega
  | succ f => exact ⟨f, by omega, by rw [chainP, h]; dsimp only; rw [hp]⟩

/- where the loop stands: an expression was read, or an error. -/
def ChainAt (b : Nat) (a : Option Addr) (cap : Nat) (ts : List Tk) (part : Nat → RX) (ops : List Mk) (RES : RX) (k B g : Nat) (e : Int) (w : World) : Prop :=
  (e = 0 ∧ ∃ kk f T, ∃ ek eb em es et elo ehi ea el ec ekid, T = XT.mk ek eb em es et elo ehi ea el ec ekid ∧ k ≤ kk ∧ Rd b a cap ts w kk ∧ XB w g ek eb em es et elo ehi ea el ec ∧ T.In (fun h => B < h ∧ h ≠ g) w ∧ ts.length - kk ≤ f ∧ chainP ts part ops f T.bare kk = RES) ∨
  ((e != 0) = true ∧ ∃ kk, k ≤ kk ∧ Rd b a cap ts w kk ∧ RES = .er e kk)

end Go.Proofs.YtejnmkhdnhggcaaDoor

/- The contracts of the reader's expr, and, add, mul: chains. (Printed by mkfeel.py.) -/
namespace Go.Proofs.YtejnmkhdnhggcaaDoor
open Go.RowKit
set_option linter.unusedVariables false
variable {b : Nat} {a : Option Addr} {cap : Nat} {ts : List Tk}

end Go.Proofs.YtejnmkhdnhggcaaDoor

/- The contract of the reader's behind. -/
namespace Go.Proofs.YtejnmkhdnhggcaaDoor
open Go.RowKit
set_option linter.unusedVariables false
variable {b : Nat} {a : Option Addr} {cap : Nat} {ts : List Tk}

/- what behind answers. -/
def BehPost (b : Nat) (a : Option Addr) (cap : Nat) (ts : List Tk) (R : RM) (k : Nat) (w : World) (e : Ending) (w' : World) : Prop :=
  Mv b w w' ∧ match R with
  | .ok m x k' => k ≤ k' ∧ Rd b a cap ts w' k' ∧ ∃ T : XT, e = .returned (.tuple #[.string ⟨m.toArray⟩, T.val, .int .i64 0]) ∧ T.In (Fr w.heap.size) w' ∧ T.bare = x
  | .er m c k' => k ≤ k' ∧ Rd b a cap ts w' k' ∧ (c != 0) = true ∧ e = .returned (.tuple #[.string ⟨m.toArray⟩, zV, .int .i64 c])

end Go.Proofs.YtejnmkhdnhggcaaDoor

/- The contract of the reader's within. -/
namespace Go.Proofs.YtejnmkhdnhggcaaDoor
open Go.RowKit
set_option linter.unusedVariables false
set_option linter.unusedSimpArgs false
variable {b : Nat} {a : Option Addr} {cap : Nat} {ts : List Tk}

/- what a part of the reader answers that was handed an expression. -/
def PostQ (b : Nat) (a : Option Addr) (cap : Nat) (ts : List Tk) (Q : Nat → Prop) (R : RX) (k : Nat) (w : World) (e : Ending) (w' : World) : Prop :=
  Mv b w w' ∧ match R with
  | .ok x k' => k ≤ k' ∧ Rd b a cap ts w' k' ∧ ∃ T : XT, e = .returned (.tuple #[T.val, .int .i64 0]) ∧ T.In Q w' ∧ T.bare = x
  | .er c k' => k ≤ k' ∧ Rd b a cap ts w' k' ∧ (c != 0) = true ∧ e = .returned (.tuple #[zV, .int .i64 c])
theorem fnd_one (k : Nat) (m : Mk) : fnd ts k [m] = if mkB ts k m = true then some m else none := rfl

end Go.Proofs.YtejnmkhdnhggcaaDoor

/- A row of expressions that grows. -/
namespace Go.Proofs.YtejnmkhdnhggcaaDoor
open Go.RowKit
set_option linter.unusedVariables false
set_option linter.unusedSimpArgs false
variable {b : Nat} {a : Option Addr} {cap : Nat} {ts : List Tk}

/- the row lies from B on, its expressions too, and not in the row itself. -/
def Kids (B : Nat) (w : World) (v : Value) (l : List XT) : Prop :=
  w.ownsRow B 26 8 v l.length (xsC l) ∧ ∀ x ∈ l, x.In (fun h => B ≤ h ∧ some h ≠ v.ownBlock) w
theorem Kids.nil (B : Nat) (w : World) : Kids B w (.slice none 0 0) [] := ⟨World.ownsRow_nil _ _ _ _, fun x hx => absurd hx List.not_mem_nil⟩
theorem Kids.by {B : Nat} {w w' : World} {v : Value} {l : List XT} (h : Kids B w v l) (hb : ∀ g, g < w.heap.size → B ≤ g → w'.heap[g]? = w.heap[g]?) : Kids B w' v l := by
  refine ⟨⟨h.1.1, ?_⟩, fun x hx => (h.2 x hx).keep (fun bl o hl hq => World.cell?_of_block (w := w) (hb bl hl hq.1))⟩
  rcases h.1.2 with h0 | ⟨g, cap, cur, hv, hB, hg, hr⟩
  · exact Or.inl h0
  · exact Or.inr ⟨g, cap, cur, hv, hB, (hb g (Array.getElem?_eq_some_iff.1 hg).1 hB).trans hg, hr⟩
theorem Kids.mv {B : Nat} {w w' : World} {v : Value} {l : List XT} (h : Kids B w v l) (m : Mv b w w') (hb : b < B) : Kids B w' v l := h.by (fun g hg hB => m.block g hg (by omega))
theorem Kids.below {B : Nat} {w w' : World} {v : Value} {l : List XT} (h : Kids B w v l) (m : Below w.heap.size w w') : Kids B w' v l := h.by (fun g hg _ => m.block g hg)
theorem Kids.alloc {B : Nat} {w : World} {v : Value} {l : List XT} (h : Kids B w v l) (o : Obj) : Kids B (w.alloc o) v l := h.below (below1 w o)
theorem Kids.lt {B : Nat} {w : World} {v : Value} {l : List XT} (h : Kids B w v l) : ∀ g, v.ownBlock = some g → B ≤ g ∧ g < w.heap.size := by
  intro g hg
  rcases h.1.2 with ⟨rfl, _⟩ | ⟨g', cap, cur, rfl, hB, hh, hr⟩
  · cases hg
  · simp only [Value.ownBlock, Option.some.injEq] at hg
    subst hg
    exact ⟨hB, (Array.getElem?_eq_some_iff.1 hh).1⟩
theorem Kids.form {B : Nat} {w : World} {v : Value} {l : List XT} (h : Kids B w v l) : ∃ ka kc, v = .slice ka l.length kc := by
  rcases h.1.2 with ⟨rfl, hn⟩ | ⟨g', cap, cur, rfl, hB, hh, hr⟩
  · exact ⟨none, 0, by rw [hn]⟩
  · exact ⟨_, _, rfl⟩
theorem xsC_len (l : List XT) (hl : ∀ x ∈ l, x.cells.length = 8) : (xsC l).length = l.length * 8 := by
  induction l with
  | nil => rfl
  | cons x l ih => rw [xsC, List.flatMap_cons, List.length_append, ← xsC, ih (fun y hy => hl y (by simp [hy])), hl x (by simp)]; simp; omega
theorem xsC_get (l : List XT) (hl : ∀ x ∈ l, x.cells.length = 8) : ∀ i (h : i < l.length) j, j < 8 → (xsC l)[i * 8 + j]? = l[i].cells[j]? := by
  induction l with
  | nil => intro i h; exact absurd h (Nat.not_lt_zero _)
  | cons x l ih =>
    intro i hi j hj
    have hx := hl x (by simp)
    rw [xsC, List.flatMap_cons]
    cases i with
    | zero => rw [List.getElem?_append_left (by omega)]; simp
    | succ i =>
      rw [List.getElem?_append_right (by omega)]
      have e : (i + 1) * 8 + j - x.cells.length = i * 8 + j := by omega
      rw [e, ← xsC, ih (fun y hy => hl y (by simp [hy])) i (by simpa using hi) j hj]
      simp
theorem in_cells {Q : Nat → Prop} {w : World} {x : XT} (h : x.In Q w) : x.cells.length = 8 := by
  obtain ⟨k, b, m, s, t, lo, hi, a, len, cap, kid, rfl⟩ := h.form
  rfl
/- an expression of these kids. -/
theorem Kids.node {B : Nat} {w : World} {v : Value} {l : List XT} (h : Kids B w v l) (hl : l.length ≤ 1000) {ka : Option Addr} {n kc : Nat} (hv : v = .slice ka n kc) (k : Int) (b : Bool) (m s : Int) (t : ByteArray) (lo hi : Bool) :
    n = l.length ∧ (XT.mk k b m s t lo hi ka n kc (fun i => l.getD i .none)).In (Fr B) w := by
  have hin : ∀ x ∈ l, x.In (Fr B) w := fun x hx => (h.2 x hx).weak (fun g _ hg => hg.1)
  obtain ⟨ka', kc', hv'⟩ := h.form
  rw [hv] at hv'
  cases hv'
  refine ⟨rfl, ?_⟩
  by_cases h0 : l.length = 0
  · refine ⟨by simp [maxLen]; omega, fun i hi => ?_⟩
    rw [h0] at hi
    exact absurd hi (Nat.not_lt_zero _)
  · obtain ⟨g, cap, hg, hB, hlt⟩ := h.1.form (by omega)
    rw [hv] at hg
    cases hg
    refine in_row hB l (by simp [maxLen]; omega) (fun i hi j hj => ?_) hin k b m s t lo hi _
    rw [hv] at h
    rw [h.1.cellAt (i * 8 + j) (by omega)]
    exact xsC_get l (fun x hx => in_cells (hin x hx)) i hi j hj
theorem infoExpr : (Tryd.prog.info? 26).map (fun i => (i.zero, i.size, i.bytes)) = some (some zV, 8, 80) := by kernel_rfl
theorem xsC_snoc (l : List XT) (x : XT) : xsC (l ++ [x]) = xsC l ++ x.cells := by simp [xsC]

/- append of one expression. -/
theorem wpList_x {w : World} {ops : Array Oper} {rest : List Oper} {o : Oper} {ac : Act} {P : Exit → Act → World → Prop} (hgd : o.guard = none) (s x : Operand)
    (ho : o.op = .call { callee := .builtin .append, args := #[s, x], argTypes := #[24, 24] }) (B : Nat) (v : Value) (l : List XT) (hs : ac.eval s = v) (own : Kids B w v l)
    (g : Nat) {xk : Int} {xb : Bool} {xm xs : Int} {xt : ByteArray} {xlo xhi : Bool} {xa : Option Addr} {xl xc : Nat} {xkid : Nat → XT} (hT : (XT.mk xk xb xm xs xt xlo xhi xa xl xc xkid).In (fun h => B ≤ h ∧ some h ≠ v.ownBlock) w)
    (hx : ac.eval x = .slice (some ⟨g, 0, none⟩) 1 1) (hc : XB w g xk xb xm xs xt xlo xhi xa xl xc)
    (hn : l.length ≤ 1000) (hB : B ≤ w.heap.size)
    (h : ∀ v' w', Kids B w' v' (l ++ [XT.mk xk xb xm xs xt xlo xhi xa xl xc xkid]) → w.grownBy w' v.ownBlock → wpList Tryd.prog ops P rest (ac.put o.dst v') w') : wpList Tryd.prog ops P (o :: rest) ac w := by
  obtain ⟨i, hi, hzz⟩ := Option.map_eq_some_iff.1 infoExpr
  simp only [Prod.mk.injEq] at hzz
  obtain ⟨hz, hz1, hz2⟩ := hzz
  refine wpList_append_lies w hgd s x 24 ho B 26 i _ 8 80 Tryd.underlying24 hi hz hz1 hz2 rfl (by omega) v l.length (xsC l) hs own.1 ⟨g, 0, none⟩ 1 1 (XT.cells (XT.mk xk xb xm xs xt xlo xhi xa xl xc xkid)) hx rfl ?_ ?_ (by omega) (by unfold maxLen; omega) (by omega) hB _ rfl ?_
  · intro j u hu
    have hadd : (⟨g, 0, none⟩ : Addr).add j = ⟨g, j, none⟩ := by unfold Addr.add; split <;> simp_all
    rw [hadd]
    obtain ⟨h0, h1, h2, h3, h4, h5, h6, h7, h8, h9⟩ := hc
    match j, hu with
    | 0, hu => exact h1.trans hu
    | 1, hu => exact h2.trans hu
    | 2, hu => exact h3.trans hu
    | 3, hu => exact h4.trans hu
    | 4, hu => exact h5.trans hu
    | 5, hu => exact h6.trans hu
    | 6, hu => exact h7.trans hu
    | 7, hu => exact h8.trans hu
    | j + 8, hu => simp [XT.cells] at hu
  · intro u hu
    simp [XT.cells] at hu
    rcases hu with rfl | rfl | rfl | rfl | rfl | rfl | rfl | rfl <;> rfl
  · intro g' cap' w' own' gr hg' hlt
    have key : ∀ y : XT, y.In (fun h => B ≤ h ∧ some h ≠ v.ownBlock) w → y.In (fun h => B ≤ h ∧ some h ≠ (Value.slice (some ⟨g', 0, none⟩) (l.length + 1) cap').ownBlock) w' := by
      intro y hy
      have hy2 := hy.weak (Q' := fun h => (B ≤ h ∧ some h ≠ v.ownBlock) ∧ h < w.heap.size) (fun g h1 h2 => ⟨h2, h1⟩)
      have hy3 : y.In (fun h => (B ≤ h ∧ some h ≠ v.ownBlock) ∧ h < w.heap.size) w' := hy2.keep (fun bl o hl hq => World.cell?_of_block (w := w) (gr.block bl hl hq.1.2))
      refine hy3.weak (fun h _ hh => ⟨hh.1.1, fun e => ?_⟩)
      simp only [Value.ownBlock, Option.some.injEq] at e
      subst e
      rcases hg' with e | e
      · exact hh.1.2 e.symm
      · have := hh.2; omega
    refine h _ w' ⟨?_, ?_⟩ gr
    · rw [xsC_snoc, List.length_append]
      exact own'
    · intro y hy
      rw [List.mem_append] at hy
      rcases hy with hy | hy
      · exact key y (own.2 y hy)
      · rw [List.mem_singleton] at hy
        subst hy
        exact key _ hT

theorem Mv.grown {b : Nat} {w0 w w' : World} {row : Option Nat} (h : Mv b w0 w) (hg : w.grownBy w' row) (hr : ∀ k, row = some k → w0.heap.size ≤ k) : Mv b w0 w' :=
  ⟨hg.os.trans h.os, hg.tape.trans h.tape, hg.output.trans h.output, Nat.le_trans h.size hg.size, fun k hk hb => (hg.block k (Nat.lt_of_lt_of_le hk h.size) (fun e => by have := hr k e.symm; omega)).trans (h.block k hk hb)⟩
theorem Rd.grown {w w' w0 : World} {k k0 : Nat} {row : Option Nat} (h : Rd b a cap ts w k) (h0 : Rd b a cap ts w0 k0) (hg : w.grownBy w' row) (hr : ∀ k, row = some k → w0.heap.size ≤ k) : Rd b a cap ts w' k := by
  have e : ∀ g, g < w.heap.size → g < w0.heap.size → w'.heap[g]? = w.heap[g]? := fun g h1 h2 => hg.block g h1 (fun e => by have := hr g e.symm; omega)
  have ec : ∀ g o, g < w.heap.size → g < w0.heap.size → w'.cell? ⟨g, o, none⟩ = w.cell? ⟨g, o, none⟩ := fun g o h1 h2 => World.cell?_of_block (w := w) (e g h1 h2)
  have hb := h0.lt
  have hb1 := h.lt
  refine ⟨Nat.lt_of_lt_of_le hb1 hg.size, h.le, (ec b 0 hb1 hb).trans h.c0, (ec b 1 hb1 hb).trans h.c1, (World.frozen?_of_block (w := w) (e b hb1 hb)).trans h.fr, fun i hi => ?_⟩
  obtain ⟨g, hga, hgb, t0, t1, t2, t3⟩ := h.row i hi
  obtain ⟨g', hg', -, s0, -⟩ := h0.row i hi
  obtain rfl : g = g' := by rw [hga] at hg'; simpa using hg'
  exact ⟨g, hga, hgb, Nat.lt_of_lt_of_le t0 hg.size, (ec g _ t0 s0).trans t1, (ec g _ t0 s0).trans t2, (ec g _ t0 s0).trans t3⟩
theorem XB.grown {w w' : World} {row : Option Nat} {g : Nat} {k : Int} {b : Bool} {m s : Int} {t : ByteArray} {lo hi : Bool} {a : Option Addr} {len cap : Nat} (h : XB w g k b m s t lo hi a len cap) (hg : w.grownBy w' row) (hr : ∀ k, row = some k → g ≠ k) : XB w' g k b m s t lo hi a len cap :=
  h.by hg.size (hg.block g h.1 (fun e => hr g e.symm rfl))
end Go.Proofs.YtejnmkhdnhggcaaDoor

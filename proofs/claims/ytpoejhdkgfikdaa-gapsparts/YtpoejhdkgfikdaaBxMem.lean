/- Boxes in memory: rows of numbers, boxes, rows of boxes; opened out of a reading, kept from world to world. -/
import Derived.Test.YtpoejhdkgfikdaaB0
import Derived.Test.YtpoejhdkgfikdaaBxMath
import Derived.Deep.Slices
import Derived.Lib.SmallJoins
namespace Go.Proofs.Ytpoejhdkgfikdaa
open Go.ChangeShapes Go.WideShapes Go.RowKit
set_option linter.unusedVariables false

/- a row of numbers lies in a block of which Q holds. -/
def RowI (Q : Nat → Prop) (w : World) (v : Value) (xs : List Int) : Prop :=
  ∃ a cap, v = .slice a xs.length cap ∧ xs.length ≤ maxLen ∧ ∀ i, i < xs.length → ∃ bl o, a = some ⟨bl, o, none⟩ ∧ Q bl ∧ bl < w.heap.size ∧ w.cell? ⟨bl, o + i, none⟩ = some (.int .i64 (ix xs i))
def BoxI (Q : Nat → Prop) (w : World) (v1 v2 : Value) (b : Bx) : Prop := RowI Q w v1 b.1 ∧ RowI Q w v2 b.2
/- a row of boxes. -/
def BxsI (Q : Nat → Prop) (w : World) (a : Option Addr) (l : List Bx) : Prop :=
  ∀ i, i < l.length → ∃ bl o v1 v2, a = some ⟨bl, o, none⟩ ∧ Q bl ∧ bl < w.heap.size ∧ w.cell? ⟨bl, o + i * 2, none⟩ = some v1 ∧ w.cell? ⟨bl, o + i * 2 + 1, none⟩ = some v2 ∧ BoxI Q w v1 v2 (bx l i)
theorem RowI.keep {Q Q' : Nat → Prop} {w w' : World} {v : Value} {xs : List Int} (hs : w.heap.size ≤ w'.heap.size) (hh : ∀ bl o, bl < w.heap.size → Q bl → w'.cell? ⟨bl, o, none⟩ = w.cell? ⟨bl, o, none⟩) (hq : ∀ g, g < w.heap.size → Q g → Q' g) (h : RowI Q w v xs) : RowI Q' w' v xs := by
  obtain ⟨a, cap, rfl, hl, hc⟩ := h
  refine ⟨a, cap, rfl, hl, fun i hi => ?_⟩
  obtain ⟨bl, o, ha, hb, hlt, hx⟩ := hc i hi
  exact ⟨bl, o, ha, hq _ hlt hb, Nat.lt_of_lt_of_le hlt hs, (hh bl _ hlt hb).trans hx⟩
theorem BoxI.keep {Q Q' : Nat → Prop} {w w' : World} {v1 v2 : Value} {b : Bx} (hs : w.heap.size ≤ w'.heap.size) (hh : ∀ bl o, bl < w.heap.size → Q bl → w'.cell? ⟨bl, o, none⟩ = w.cell? ⟨bl, o, none⟩) (hq : ∀ g, g < w.heap.size → Q g → Q' g) (h : BoxI Q w v1 v2 b) : BoxI Q' w' v1 v2 b := ⟨h.1.keep hs hh hq, h.2.keep hs hh hq⟩
theorem BxsI.keep {Q Q' : Nat → Prop} {w w' : World} {a : Option Addr} {l : List Bx} (hs : w.heap.size ≤ w'.heap.size) (hh : ∀ bl o, bl < w.heap.size → Q bl → w'.cell? ⟨bl, o, none⟩ = w.cell? ⟨bl, o, none⟩) (hq : ∀ g, g < w.heap.size → Q g → Q' g) (h : BxsI Q w a l) : BxsI Q' w' a l := by
  intro i hi
  obtain ⟨bl, o, v1, v2, ha, hb, hlt, h1, h2, h3⟩ := h i hi
  exact ⟨bl, o, v1, v2, ha, hq _ hlt hb, Nat.lt_of_lt_of_le hlt hs, (hh _ _ hlt hb).trans h1, (hh _ _ hlt hb).trans h2, h3.keep hs hh hq⟩
theorem RowI.below {Q : Nat → Prop} {w w' : World} {v : Value} {xs : List Int} (h : RowI Q w v xs) (b : Below w.heap.size w w') : RowI Q w' v xs := h.keep b.size (fun bl o hl _ => (bcell b).1 bl o hl) (fun _ _ h => h)
theorem BoxI.below {Q : Nat → Prop} {w w' : World} {v1 v2 : Value} {b : Bx} (h : BoxI Q w v1 v2 b) (k : Below w.heap.size w w') : BoxI Q w' v1 v2 b := ⟨h.1.below k, h.2.below k⟩
theorem BxsI.below {Q : Nat → Prop} {w w' : World} {a : Option Addr} {l : List Bx} (h : BxsI Q w a l) (b : Below w.heap.size w w') : BxsI Q w' a l := h.keep b.size (fun bl o hl _ => (bcell b).1 bl o hl) (fun _ _ h => h)
theorem RowI.weak {Q Q' : Nat → Prop} {w : World} {v : Value} {xs : List Int} (h : RowI Q w v xs) (hq : ∀ g, g < w.heap.size → Q g → Q' g) : RowI Q' w v xs := h.keep (Nat.le_refl _) (fun _ _ _ _ => rfl) hq
theorem BoxI.weak {Q Q' : Nat → Prop} {w : World} {v1 v2 : Value} {b : Bx} (h : BoxI Q w v1 v2 b) (hq : ∀ g, g < w.heap.size → Q g → Q' g) : BoxI Q' w v1 v2 b := ⟨h.1.weak hq, h.2.weak hq⟩
theorem BxsI.weak {Q Q' : Nat → Prop} {w : World} {a : Option Addr} {l : List Bx} (h : BxsI Q w a l) (hq : ∀ g, g < w.heap.size → Q g → Q' g) : BxsI Q' w a l := h.keep (Nat.le_refl _) (fun _ _ _ _ => rfl) hq
theorem RowI.at {Q : Nat → Prop} {w : World} {a : Option Addr} {n cap : Nat} {xs : List Int} (h : RowI Q w (.slice a n cap) xs) : n = xs.length ∧ n ≤ maxLen ∧ ∀ i, i < n → ∃ bl o, a = some ⟨bl, o, none⟩ ∧ bl < w.heap.size ∧ w.cell? ⟨bl, o + i, none⟩ = some (.int .i64 (ix xs i)) := by
  obtain ⟨a', cap', hv, hl, hc⟩ := h
  cases hv
  refine ⟨rfl, hl, fun i hi => ?_⟩
  obtain ⟨bl, o, h1, h2, h3, h4⟩ := hc i hi
  exact ⟨bl, o, h1, h3, h4⟩
theorem RowI.form {Q : Nat → Prop} {w : World} {v : Value} {xs : List Int} (h : RowI Q w v xs) : ∃ a cap, v = .slice a xs.length cap := by
  obtain ⟨a, cap, rfl, -⟩ := h
  exact ⟨a, cap, rfl⟩

/- it answers a Bool: whether P. -/
def Ans (P : Prop) (e : Ending) : Prop := ∃ r, e = .returned (.bool r) ∧ (r = true ↔ P)
theorem ans_no {P : Prop} (h : ¬ P) : Ans P (.returned (.bool false)) := ⟨false, rfl, by simp [h]⟩
theorem ans_yes {P : Prop} (h : P) : Ans P (.returned (.bool true)) := ⟨true, rfl, by simp [h]⟩

theorem kcx {x y : World} (k : Below x.heap.size x y) {b o : Nat} {v : Value} (hc : x.cell? ⟨b, o, none⟩ = some v) : y.cell? ⟨b, o, none⟩ = some v := ((bcell k).1 b o (World.block_lt_of_cell? _ _ hc)).trans hc
theorem cellsBox : Try.prog.cellsOf 25 = 2 := by kernel_rfl
theorem cellsInt : Try.prog.cellsOf 3 = 1 := by kernel_rfl
theorem cellsInts : Try.prog.cellsOf 23 = 1 := by kernel_rfl
section
variable {H : Type} {enc : TypeId × Value → H} {w : World} {base : Nat} {spare : Nat → Bool} {held : Bool}
set_option maxRecDepth 10000 in
theorem open_row {fuel : Nat} {v : Value} {x : DataW H × List MemPlace} (h : DataW.trod enc Try.prog w base spare held fuel 23 [v] = some x) :
    ∃ xs, RowI (fun _ => True) w v xs ∧ ∀ x ∈ xs, (Lit.int .i64 x).wf = true := by
  rcases DataW.trod_slice Try.underlying23 h with ⟨e4, -⟩ | ⟨a, len, cap, elems, rest, n', hn, e4, -, hb, hlc, hcm, hel, hget, -, -⟩
  · simp at e4
    subst e4
    exact ⟨[], ⟨none, 0, rfl, Nat.zero_le _, fun i hi => absurd hi (Nat.not_lt_zero _)⟩, fun x hx => by cases hx⟩
  · simp at e4
    subst e4
    rw [cellsInt] at hget
    have one : ∀ i, i < len → ∃ m : Int, w.cell? ((a.add i).add 0) = some (.int .i64 m) ∧ (Lit.int .i64 m).wf = true := fun i hi => by
      have key := hget i hi
      rw [List.getElem?_eq_getElem (by omega)] at key
      obtain ⟨cs', h1, h2⟩ := Option.bind_eq_some_iff.1 key
      obtain ⟨m, e0, -, w0⟩ := DataW.trod_int Try.underlying3 h2
      obtain ⟨_, _, hcell⟩ := World.cells?_some h1
      have := hcell 0 (by omega)
      subst e0
      exact ⟨m, by simpa using this, w0⟩
    have hspot : 0 < len → a.spot = Option.none := fun h0 => by
      obtain ⟨m, h1, -⟩ := one 0 h0
      have h00 := World.cell?_spot h1
      simpa [Addr.add] using h00
    obtain ⟨kid, hkid⟩ := Deep.choose_lt (α := Int) (n := len) (p := fun i m => w.cell? ((a.add i).add 0) = some (.int .i64 m) ∧ (Lit.int .i64 m).wf = true) one
    refine ⟨(List.range len).map kid, ⟨some a, cap, by simp, by simp; omega, fun i hi => ?_⟩, fun x hx => ?_⟩
    · have hi' : i < len := by simpa using hi
      obtain ⟨bl, o, spot⟩ := a
      have hsp : spot = Option.none := hspot (by omega)
      subst hsp
      obtain ⟨h1, -⟩ := hkid i hi'
      rw [add_plain, add_plain] at h1
      exact ⟨bl, o, rfl, trivial, World.block_lt_of_cell? _ _ h1, by rw [ix_get hi]; simpa using h1⟩
    · simp only [List.mem_map, List.mem_range] at hx
      obtain ⟨i, hi, rfl⟩ := hx
      exact (hkid i hi).2
set_option maxRecDepth 10000 in
theorem open_box {fuel : Nat} {cs : List Value} {x : DataW H × List MemPlace} (h : DataW.trod enc Try.prog w base spare held fuel 25 cs = some x) :
    ∃ v1 v2 b, cs = [v1, v2] ∧ BoxI (fun _ => True) w v1 v2 b ∧ ∀ x ∈ b.1 ++ b.2, (Lit.int .i64 x).wf = true := by
  obtain ⟨xs, n, rfl, rfl, hl, hlen, hf⟩ := DataW.trod_struct Try.underlying25 h
  rw [cellsBox] at hl
  match xs, hlen, cs, hl with
  | [y0, y1], _, [v0, v1], _ =>
    have g0 := hf 0 _ rfl
    have g1 := hf 1 _ rfl
    simp [cellsInts] at g0 g1
    obtain ⟨l0, r0, w0⟩ := open_row g0
    obtain ⟨l1, r1, w1⟩ := open_row g1
    refine ⟨v0, v1, (l0, l1), rfl, ⟨r0, r1⟩, fun x hx => ?_⟩
    rcases List.mem_append.1 hx with hx | hx
    · exact w0 x hx
    · exact w1 x hx
set_option maxRecDepth 10000 in
theorem open_ints {r : Reach} {b0 : Nat} {v : Value} {d : DataW H} {p : List MemPlace} (hv : Value.okWide Try.prog w r b0 23 v) (h : DataW.Trod enc Try.prog w base spare held 23 v d p) :
    ∃ (a : Option Addr) (cap : Nat) (xs : List Int), v = .slice a xs.length cap ∧ RowI (fun _ => True) w (.slice a xs.length cap) xs ∧ ∀ x ∈ xs, (Lit.int .i64 x).wf = true := by
  obtain ⟨a0, len0, cap0, rfl⟩ := okWide_slice Try.underlying23 hv
  obtain ⟨fuel, hf⟩ := h
  obtain ⟨xs, hr, hw⟩ := open_row hf
  obtain ⟨h1, -⟩ := hr.at
  subst h1
  exact ⟨a0, cap0, xs, rfl, hr, hw⟩
set_option maxRecDepth 10000 in
theorem open_boxv {r : Reach} {b0 : Nat} {v : Value} {d : DataW H} {p : List MemPlace} (hv : Value.okWide Try.prog w r b0 25 v) (h : DataW.Trod enc Try.prog w base spare held 25 v d p) :
    ∃ v1 v2 b, v = .agg #[v1, v2] ∧ BoxI (fun _ => True) w v1 v2 b ∧ ∀ x ∈ b.1 ++ b.2, (Lit.int .i64 x).wf = true := by
  obtain ⟨cs, rfl, hsz⟩ := okWide_struct Try.underlying25 hv
  obtain ⟨fuel, hf⟩ := h
  obtain ⟨v1, v2, b, hT, hin, hw⟩ := open_box hf
  refine ⟨v1, v2, b, ?_, hin, hw⟩
  simp [Value.cells] at hT
  show Value.agg cs = .agg _
  congr 1
  apply Array.ext'
  simpa using hT
set_option maxRecDepth 10000 in
theorem open_boxes {r : Reach} {b0 : Nat} {v : Value} {d : DataW H} {p : List MemPlace} (hv : Value.okWide Try.prog w r b0 22 v) (h : DataW.Trod enc Try.prog w base spare held 22 v d p) :
    ∃ (a : Option Addr) (cap : Nat) (l : List Bx), v = .slice a l.length cap ∧ l.length ≤ maxLen ∧ BxsI (fun _ => True) w a l := by
  obtain ⟨a0, len0, cap0, rfl⟩ := okWide_slice Try.underlying22 hv
  obtain ⟨fuel, hf⟩ := h
  rcases DataW.trod_slice Try.underlying22 hf with ⟨e4, -⟩ | ⟨a, len, cap, elems, rest, n', hn, e4, -, hb, hlc, hcm, hel, hget, -, -⟩
  · simp [Value.cells] at e4
    obtain ⟨rfl, rfl, rfl⟩ := e4
    exact ⟨none, 0, [], rfl, Nat.zero_le _, fun i hi => absurd hi (Nat.not_lt_zero _)⟩
  · simp [Value.cells] at e4
    obtain ⟨rfl, rfl, rfl⟩ := e4
    rw [cellsBox] at hget
    have one : ∀ i, i < len0 → ∃ b : Bx, ∃ v1 v2, w.cell? ((a.add (i * 2)).add 0) = some v1 ∧ w.cell? ((a.add (i * 2)).add 1) = some v2 ∧ BoxI (fun _ => True) w v1 v2 b := fun i hi => by
      have key := hget i hi
      rw [List.getElem?_eq_getElem (by omega)] at key
      obtain ⟨cs', h1, h2⟩ := Option.bind_eq_some_iff.1 key
      obtain ⟨v1, v2, b, rfl, hin, -⟩ := open_box h2
      obtain ⟨_, _, hcell⟩ := World.cells?_some h1
      exact ⟨b, v1, v2, hcell 0 (by omega), hcell 1 (by omega), hin⟩
    have hspot : 0 < len0 → a.spot = Option.none := fun h0 => by
      obtain ⟨b, v1, v2, h1, -⟩ := one 0 h0
      have h00 := World.cell?_spot h1
      simpa [Addr.add] using h00
    obtain ⟨kid, hkid⟩ := Deep.choose_lt (α := Bx) (n := len0) (p := fun i b => ∃ v1 v2, w.cell? ((a.add (i * 2)).add 0) = some v1 ∧ w.cell? ((a.add (i * 2)).add 1) = some v2 ∧ BoxI (fun _ => True) w v1 v2 b) one
    refine ⟨some a, cap0, (List.range len0).map kid, by simp, by simp; omega, fun i hi => ?_⟩
    have hi' : i < len0 := by simpa using hi
    obtain ⟨bl, o, spot⟩ := a
    have hsp : spot = Option.none := hspot (by omega)
    subst hsp
    obtain ⟨v1, v2, h1, h2, h3⟩ := hkid i hi'
    rw [add_plain, add_plain] at h1 h2
    refine ⟨bl, o, v1, v2, rfl, trivial, World.block_lt_of_cell? _ _ h1, h1, h2, ?_⟩
    unfold bx
    rw [List.getD_eq_getElem?_getD, List.getElem?_eq_getElem hi]
    simpa using h3
end
end Go.Proofs.Ytpoejhdkgfikdaa

/- A value as a tree, with the places where its lists lie: opened out of a reading, kept from world to world. -/
import Derived.Test.YthccmlkcdinfdacB0
import Derived.Deep.Slices
import Derived.Lib.SmallJoins
namespace Go.Proofs.Ythccmlkcdinfdac
open Go.ChangeShapes Go.WideShapes Go.RowKit

/- kind, B, D, T, and L: where it lies, how long it is, how long it may be, its elements ('none' stands behind them). -/
inductive VT where
  | none
  | mk (k : Int) (b : Bool) (m s : Int) (t : ByteArray) (a : Option Addr) (len cap : Nat) (kid : Nat → VT)

instance : Inhabited VT := ⟨.none⟩

namespace VT
def cells : VT → List Value
  | .none => []
  | .mk k b m s t a len cap _ => [.int .i64 k, .bool b, .int .i64 m, .int .i64 s, .string t, .slice a len cap]
def val : VT → Value
  | .none => .agg #[]
  | .mk k b m s t a len cap _ => .agg #[.int .i64 k, .bool b, .int .i64 m, .int .i64 s, .string t, .slice a len cap]

/- it lies in the world. -/
def In (w : World) : VT → Prop
  | .none => False
  | .mk k _ m s t a len cap kid => ((Lit.int .i64 k).wf = true ∧ (Lit.int .i64 m).wf = true ∧ (Lit.int .i64 s).wf = true ∧ t.size ≤ maxLen ∧ len ≤ cap ∧ cap ≤ maxLen) ∧
      ∀ i, i < len → (∃ bl o, a = some ⟨bl, o, Option.none⟩ ∧ ∀ j, j < 6 → w.cell? ⟨bl, o + i * 6 + j, Option.none⟩ = (kid i).cells[j]?) ∧ (kid i).In w

theorem In.keep {w w' : World} (hh : ∀ bl o, bl < w.heap.size → w'.cell? ⟨bl, o, Option.none⟩ = w.cell? ⟨bl, o, Option.none⟩) (x : VT) (h : x.In w) : x.In w' := by
  induction x with
  | none => exact h
  | mk k b m s t a len cap kid ih =>
    refine ⟨h.1, fun i hi => ?_⟩
    obtain ⟨⟨bl, o, ha, hc⟩, hk⟩ := h.2 i hi
    refine ⟨⟨bl, o, ha, fun j hj => ?_⟩, ih i hk⟩
    have h0 := hc 0 (by omega)
    have hl : bl < w.heap.size := by
      cases hx : kid i with
      | none => rw [hx] at hk; exact absurd hk (by simp [In])
      | mk => rw [hx] at h0; exact World.block_lt_of_cell? _ _ h0
    rw [hh bl _ hl]
    exact hc j hj

theorem In.below {w w' : World} {x : VT} (h : x.In w) (b : Below w.heap.size w w') : x.In w' := h.keep (bcell b).1

/- the six cells of an element, and that it lies there. -/
def Six (w : World) (bl o : Nat) (k : Int) (b : Bool) (m s : Int) (t : ByteArray) (a : Option Addr) (len cap : Nat) : Prop :=
  bl < w.heap.size ∧ w.cell? ⟨bl, o, Option.none⟩ = some (.int .i64 k) ∧ w.cell? ⟨bl, o + 1, Option.none⟩ = some (.bool b) ∧ w.cell? ⟨bl, o + 2, Option.none⟩ = some (.int .i64 m) ∧ w.cell? ⟨bl, o + 3, Option.none⟩ = some (.int .i64 s) ∧ w.cell? ⟨bl, o + 4, Option.none⟩ = some (.string t) ∧ w.cell? ⟨bl, o + 5, Option.none⟩ = some (.slice a len cap)

theorem In.kid {w : World} {k : Int} {b : Bool} {m s : Int} {t : ByteArray} {a : Option Addr} {len cap : Nat} {kid : Nat → VT} (h : (VT.mk k b m s t a len cap kid).In w) {i : Nat} (hi : i < len) :
    ∃ bl o k' b' m' s' t' a' len' cap' kid', a = some ⟨bl, o, Option.none⟩ ∧ kid i = .mk k' b' m' s' t' a' len' cap' kid' ∧ Six w bl (o + i * 6) k' b' m' s' t' a' len' cap' ∧ (VT.mk k' b' m' s' t' a' len' cap' kid').In w := by
  obtain ⟨⟨bl, o, ha, hc⟩, hk⟩ := h.2 i hi
  cases hx : kid i with
  | none => rw [hx] at hk; exact absurd hk (by simp [In])
  | mk k' b' m' s' t' a' len' cap' kid' =>
    rw [hx] at hc hk
    have h0 := hc 0 (by omega)
    exact ⟨bl, o, k', b', m', s', t', a', len', cap', kid', ha, rfl, ⟨World.block_lt_of_cell? _ _ h0, h0, hc 1 (by omega), hc 2 (by omega), hc 3 (by omega), hc 4 (by omega), hc 5 (by omega)⟩, hk⟩

theorem Six.below {w w' : World} {bl o : Nat} {k : Int} {b : Bool} {m s : Int} {t : ByteArray} {a : Option Addr} {len cap : Nat} (h : Six w bl o k b m s t a len cap) (hb : Below w.heap.size w w') : Six w' bl o k b m s t a len cap := by
  obtain ⟨h0, h1, h2, h3, h4, h5, h6⟩ := h
  have hc := (bcell hb).1
  exact ⟨Nat.lt_of_lt_of_le h0 hb.size, (hc bl _ h0).trans h1, (hc bl _ h0).trans h2, (hc bl _ h0).trans h3, (hc bl _ h0).trans h4, (hc bl _ h0).trans h5, (hc bl _ h0).trans h6⟩
end VT

theorem cellsVal : Try.prog.cellsOf 26 = 6 := by kernel_rfl
theorem cellsD : Try.prog.cellsOf 23 = 2 := by kernel_rfl
theorem cellsI : Try.prog.cellsOf 3 = 1 := by kernel_rfl
theorem cellsB : Try.prog.cellsOf 4 = 1 := by kernel_rfl
theorem cellsS : Try.prog.cellsOf 9 = 1 := by kernel_rfl
theorem cellsL : Try.prog.cellsOf 24 = 1 := by kernel_rfl

section
variable {H : Type} {enc : TypeId × Value → H} {w : World} {base : Nat} {spare : Nat → Bool} {held : Bool}

theorem open_dec {fuel : Nat} {v0 v1 : Value} {x : DataW H × List MemPlace} (h : DataW.trod enc Try.prog w base spare held fuel 23 [v0, v1] = some x) :
    ∃ m s : Int, v0 = .int .i64 m ∧ v1 = .int .i64 s ∧ (Lit.int .i64 m).wf = true ∧ (Lit.int .i64 s).wf = true := by
  obtain ⟨xs, n, rfl, rfl, hl, hlen, hf⟩ := DataW.trod_struct Try.underlying23 h
  match xs, hlen with
  | [y0, y1], _ =>
    have g0 := hf 0 _ rfl
    have g1 := hf 1 _ rfl
    simp [cellsI] at g0 g1
    obtain ⟨m, e0, -, w0⟩ := DataW.trod_int Try.underlying3 g0
    obtain ⟨s, e1, -, w1⟩ := DataW.trod_int Try.underlying3 g1
    simp at e0 e1
    exact ⟨m, s, e0, e1, w0, w1⟩

theorem open_val (fuel : Nat) : ∀ {cs : List Value} {x : DataW H × List MemPlace}, DataW.trod enc Try.prog w base spare held fuel 26 cs = some x →
    ∃ T : VT, cs = T.cells ∧ T.In w := by
  induction fuel using Nat.strongRecOn with
  | _ fuel ih =>
    intro cs x h
    obtain ⟨xs, n, rfl, rfl, hl, hlen, hf⟩ := DataW.trod_struct Try.underlying26 h
    rw [cellsVal] at hl
    match xs, hlen, cs, hl with
    | [y0, y1, y2, y3, y4], _, [v0, v1, v2, v3, v4, v5], _ =>
      have g0 := hf 0 _ rfl
      have g1 := hf 1 _ rfl
      have g2 := hf 2 _ rfl
      have g3 := hf 3 _ rfl
      have g4 := hf 4 _ rfl
      simp [cellsI, cellsB, cellsD, cellsS, cellsL] at g0 g1 g2 g3 g4
      obtain ⟨k, e0, -, w0⟩ := DataW.trod_int Try.underlying3 g0
      obtain ⟨b, e1, -⟩ := DataW.trod_bool Try.underlying4 g1
      obtain ⟨m, s, rfl, rfl, w1, w2⟩ := open_dec g2
      obtain ⟨t, e3, -, w3⟩ := DataW.trod_string Try.underlying9 g3
      simp at e0 e1 e3
      subst e0 e1 e3
      rcases DataW.trod_slice Try.underlying24 g4 with ⟨e4, -⟩ | ⟨a, len, cap, elems, rest, n', hn, e4, -, hb, hlc, hcm, hel, hget, -, -⟩
      · simp at e4
        subst e4
        exact ⟨.mk k b m s t Option.none 0 0 (fun _ => .none), rfl, ⟨w0, w1, w2, w3, Nat.le_refl _, Nat.zero_le _⟩, fun i hi => absurd hi (Nat.not_lt_zero _)⟩
      · simp at e4
        subst e4
        rw [cellsVal] at hget
        have hspot : 0 < len → a.spot = Option.none := fun h0 => by
          have key := hget 0 h0
          rw [List.getElem?_eq_getElem (by omega)] at key
          obtain ⟨cs', h1, h2⟩ := Option.bind_eq_some_iff.1 key
          obtain ⟨T, rfl, hT⟩ := ih n' (by omega) h2
          obtain ⟨_, _, hcell⟩ := World.cells?_some h1
          have h0 := hcell 0 (by omega)
          cases T with
          | none => exact absurd hT (by simp [VT.In])
          | mk =>
            have h00 := World.cell?_spot h0
            simpa [Addr.add] using h00
        obtain ⟨kid, hkid⟩ := Deep.choose_lt (α := VT) (n := len) (p := fun i T => (∃ bl o, a = ⟨bl, o, Option.none⟩ ∧ ∀ j, j < 6 → w.cell? ⟨bl, o + i * 6 + j, Option.none⟩ = T.cells[j]?) ∧ T.In w) (fun i hi => by
          have key := hget i hi
          rw [List.getElem?_eq_getElem (by omega)] at key
          obtain ⟨cs', h1, h2⟩ := Option.bind_eq_some_iff.1 key
          obtain ⟨T, rfl, hT⟩ := ih n' (by omega) h2
          obtain ⟨_, _, hcell⟩ := World.cells?_some h1
          refine ⟨T, ?_, hT⟩
          obtain ⟨bl, o, spot⟩ := a
          have hsp : spot = Option.none := hspot (by omega)
          subst hsp
          refine ⟨bl, o, rfl, fun j hj => ?_⟩
          have := hcell j hj
          rwa [add_plain, add_plain] at this)
        refine ⟨.mk k b m s t (some a) len cap kid, rfl, ⟨w0, w1, w2, w3, hlc, hcm⟩, fun i hi => ?_⟩
        obtain ⟨⟨bl, o, ha, hc⟩, hk⟩ := hkid i hi
        exact ⟨⟨bl, o, by rw [ha], hc⟩, hk⟩

theorem open_arg {r : Reach} {b0 : Nat} {v : Value} {d : DataW H} {p : List MemPlace} (hv : Value.okWide Try.prog w r b0 26 v) (h : DataW.Trod enc Try.prog w base spare held 26 v d p) :
    ∃ T : VT, v = T.val ∧ T.In w := by
  obtain ⟨cs, rfl, hsz⟩ := okWide_struct Try.underlying26 hv
  obtain ⟨fuel, hf⟩ := h
  obtain ⟨T, hT, hin⟩ := open_val fuel hf
  refine ⟨T, ?_, hin⟩
  cases T with
  | none => exact absurd hin (by simp [VT.In])
  | mk =>
    simp [Value.cells] at hT
    show Value.agg cs = .agg _
    congr 1
    apply Array.ext'
    simpa [VT.cells] using hT
end
end Go.Proofs.Ythccmlkcdinfdac

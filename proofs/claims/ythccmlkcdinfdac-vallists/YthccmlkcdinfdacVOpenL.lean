/- A list of values as an argument, opened. -/
import Derived.Test.YthccmlkcdinfdacTree
namespace Go.Proofs.Ythccmlkcdinfdac
open Go.ChangeShapes Go.WideShapes Go.RowKit

section
variable {H : Type} {enc : TypeId × Value → H} {w : World} {base : Nat} {spare : Nat → Bool} {held : Bool}
theorem open_list {r : Reach} {b0 : Nat} {v : Value} {d : DataW H} {p : List MemPlace} (hv : Value.okWide Try.prog w r b0 24 v) (h : DataW.Trod enc Try.prog w base spare held 24 v d p) :
    ∃ (a : Option Addr) (len cap : Nat) (kid : Nat → VT), v = .slice a len cap ∧ (VT.mk 4 false 0 0 ⟨#[]⟩ a len cap kid).In w := by
  obtain ⟨a0, len0, cap0, rfl⟩ := okWide_slice Try.underlying24 hv
  obtain ⟨fuel, hf⟩ := h
  rcases DataW.trod_slice Try.underlying24 hf with ⟨e4, -⟩ | ⟨a, len, cap, elems, rest, n', hn, e4, -, hb, hlc, hcm, hel, hget, -, -⟩
  · simp [Value.cells] at e4
    obtain ⟨rfl, rfl, rfl⟩ := e4
    exact ⟨none, 0, 0, fun _ => .none, rfl, ⟨rfl, rfl, rfl, Nat.zero_le _, Nat.le_refl _, Nat.zero_le _⟩, fun i hi => absurd hi (Nat.not_lt_zero _)⟩
  · simp [Value.cells] at e4
    obtain ⟨rfl, rfl, rfl⟩ := e4
    rw [cellsVal] at hget
    have hspot : 0 < len0 → a.spot = Option.none := fun h0 => by
      have key := hget 0 h0
      rw [List.getElem?_eq_getElem (by omega)] at key
      obtain ⟨cs', h1, h2⟩ := Option.bind_eq_some_iff.1 key
      obtain ⟨T, rfl, hT⟩ := open_val n' h2
      obtain ⟨_, _, hcell⟩ := World.cells?_some h1
      have h0 := hcell 0 (by omega)
      cases T with
      | none => exact absurd hT (by simp [VT.In])
      | mk =>
        have h00 := World.cell?_spot h0
        simpa [Addr.add] using h00
    obtain ⟨kid, hkid⟩ := Deep.choose_lt (α := VT) (n := len0) (p := fun i T => (∃ bl o, a = ⟨bl, o, Option.none⟩ ∧ ∀ j, j < 6 → w.cell? ⟨bl, o + i * 6 + j, Option.none⟩ = T.cells[j]?) ∧ T.In w) (fun i hi => by
      have key := hget i hi
      rw [List.getElem?_eq_getElem (by omega)] at key
      obtain ⟨cs', h1, h2⟩ := Option.bind_eq_some_iff.1 key
      obtain ⟨T, rfl, hT⟩ := open_val n' h2
      obtain ⟨_, _, hcell⟩ := World.cells?_some h1
      refine ⟨T, ?_, hT⟩
      obtain ⟨bl, o, spot⟩ := a
      have hsp : spot = Option.none := hspot (by omega)
      subst hsp
      refine ⟨bl, o, rfl, fun j hj => ?_⟩
      have := hcell j hj
      rwa [add_plain, add_plain] at this)
    refine ⟨some a, len0, cap0, kid, rfl, ⟨rfl, rfl, rfl, Nat.zero_le _, hlc, hcm⟩, fun i hi => ?_⟩
    obtain ⟨⟨bl, o, ha, hc⟩, hk⟩ := hkid i hi
    exact ⟨⟨bl, o, by rw [ha], hc⟩, hk⟩
end
end Go.Proofs.Ythccmlkcdinfdac

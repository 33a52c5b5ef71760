/- A value in new memory: apart from what was there, and it may be written. -/
import Derived.Test.YthccmlkcdinfdacVOwn
import Derived.Deep.OwnRows
namespace Go.Proofs.Ythccmlkcdinfdac
open Go.RowKit

namespace VT
def Fresh (n : Nat) (w : World) : VT → Prop
  | .none => True
  | .mk _ _ _ _ _ a len _ kid => ∀ i, i < len → (∃ bl o, a = some ⟨bl, o, Option.none⟩ ∧ n ≤ bl ∧ ∀ j, j < 6 → w.frozen? ⟨bl, o + i * 6 + j, Option.none⟩ = false) ∧ (kid i).Fresh n w

theorem Fresh.mono {n n' : Nat} {w : World} (h : n' ≤ n) (x : VT) (f : x.Fresh n w) : x.Fresh n' w := by
  induction x with
  | none => trivial
  | mk k b m s t a len cap kid ih =>
    intro i hi
    obtain ⟨⟨bl, o, ha, hn, hf⟩, hk⟩ := f i hi
    exact ⟨⟨bl, o, ha, by omega, hf⟩, ih i hk⟩

theorem away {n : Nat} {w w' : World} (hc : ∀ bl o, n ≤ bl → w'.cell? ⟨bl, o, Option.none⟩ = w.cell? ⟨bl, o, Option.none⟩) (hf : ∀ bl o, n ≤ bl → w'.frozen? ⟨bl, o, Option.none⟩ = w.frozen? ⟨bl, o, Option.none⟩)
    (x : VT) (h : x.In w) (f : x.Fresh n w) : x.In w' ∧ x.Fresh n w' := by
  induction x with
  | none => exact absurd h (by simp [In])
  | mk k b m s t a len cap kid ih =>
    refine ⟨⟨h.1, fun i hi => ?_⟩, fun i hi => ?_⟩
    · obtain ⟨⟨bl, o, ha, hcc⟩, hk⟩ := h.2 i hi
      obtain ⟨⟨bl', o', ha', hn, hff⟩, hk'⟩ := f i hi
      obtain ⟨rfl, rfl⟩ : bl = bl' ∧ o = o' := by rw [ha] at ha'; simpa using ha'
      exact ⟨⟨bl, o, ha, fun j hj => (hc _ _ hn).trans (hcc j hj)⟩, (ih i hk hk').1⟩
    · obtain ⟨⟨bl, o, ha, hcc⟩, hk⟩ := h.2 i hi
      obtain ⟨⟨bl', o', ha', hn, hff⟩, hk'⟩ := f i hi
      exact ⟨⟨bl', o', ha', hn, fun j hj => (hf _ _ hn).trans (hff j hj)⟩, (ih i hk hk').2⟩

theorem Fresh.below {n : Nat} {w w' : World} (hb : Below w.heap.size w w') (x : VT) (h : x.In w) (f : x.Fresh n w) : x.Fresh n w' := by
  induction x with
  | none => trivial
  | mk k b m s t a len cap kid ih =>
    intro i hi
    obtain ⟨⟨bl, o, ha, hcc⟩, hk⟩ := h.2 i hi
    obtain ⟨⟨bl', o', ha', hn, hff⟩, hk'⟩ := f i hi
    obtain ⟨rfl, rfl⟩ : bl = bl' ∧ o = o' := by rw [ha] at ha'; simpa using ha'
    refine ⟨⟨bl, o, ha, hn, fun j hj => ?_⟩, ih i hk hk'⟩
    have hl : bl < w.heap.size := by
      have h0 := hcc 0 (by omega)
      cases hx : kid i with
      | none => rw [hx] at hk; exact absurd hk (by simp [In])
      | mk => rw [hx] at h0; exact World.block_lt_of_cell? _ _ h0
    exact ((bcell hb).2 bl _ hl).trans (hff j hj)
end VT
end Go.Proofs.Ythccmlkcdinfdac

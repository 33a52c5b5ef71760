/- A row of values of the call's own: made, written an element at a time. -/
import Derived.Test.YthccmlkcdinfdacVFresh
namespace Go.Proofs.Ythccmlkcdinfdac
open Go.RowKit

section
variable (w : World) (nb o : Nat) (v0 v1 v2 v3 v4 v5 : Value)
theorem put_blk {k : Nat} (h : k ≠ nb) : ((((((w.setCell ⟨nb, o, none⟩ v0).setCell ⟨nb, o + 1, none⟩ v1).setCell ⟨nb, o + 2, none⟩ v2).setCell ⟨nb, o + 3, none⟩ v3).setCell ⟨nb, o + 4, none⟩ v4).setCell ⟨nb, o + 5, none⟩ v5).heap[k]? = w.heap[k]? := by
  rw [Below.heap_setCell _ _ _ _ h, Below.heap_setCell _ _ _ _ h, Below.heap_setCell _ _ _ _ h, Below.heap_setCell _ _ _ _ h, Below.heap_setCell _ _ _ _ h, Below.heap_setCell _ _ _ _ h]
theorem put_size : ((((((w.setCell ⟨nb, o, none⟩ v0).setCell ⟨nb, o + 1, none⟩ v1).setCell ⟨nb, o + 2, none⟩ v2).setCell ⟨nb, o + 3, none⟩ v3).setCell ⟨nb, o + 4, none⟩ v4).setCell ⟨nb, o + 5, none⟩ v5).heap.size = w.heap.size := by simp [World.setCell]
theorem put_cell {k i : Nat} (h : k ≠ nb) : ((((((w.setCell ⟨nb, o, none⟩ v0).setCell ⟨nb, o + 1, none⟩ v1).setCell ⟨nb, o + 2, none⟩ v2).setCell ⟨nb, o + 3, none⟩ v3).setCell ⟨nb, o + 4, none⟩ v4).setCell ⟨nb, o + 5, none⟩ v5).cell? ⟨k, i, none⟩ = w.cell? ⟨k, i, none⟩ := World.cell?_of_block (put_blk w nb o v0 v1 v2 v3 v4 v5 h)
theorem put_froz (k i : Nat) : ((((((w.setCell ⟨nb, o, none⟩ v0).setCell ⟨nb, o + 1, none⟩ v1).setCell ⟨nb, o + 2, none⟩ v2).setCell ⟨nb, o + 3, none⟩ v3).setCell ⟨nb, o + 4, none⟩ v4).setCell ⟨nb, o + 5, none⟩ v5).frozen? ⟨k, i, none⟩ = w.frozen? ⟨k, i, none⟩ := by simp
theorem put_below {n : Nat} {V : World} (h : Below n V w) (hb : n ≤ nb) : Below n V ((((((w.setCell ⟨nb, o, none⟩ v0).setCell ⟨nb, o + 1, none⟩ v1).setCell ⟨nb, o + 2, none⟩ v2).setCell ⟨nb, o + 3, none⟩ v3).setCell ⟨nb, o + 4, none⟩ v4).setCell ⟨nb, o + 5, none⟩ v5) :=
  (((((h.setCell hb v0).setCell hb v1).setCell hb v2).setCell hb v3).setCell hb v4).setCell hb v5
theorem put_six {b' o' : Nat} {k : Int} {bb : Bool} {m s : Int} {t : ByteArray} {a : Option Addr} {len cap : Nat} (h : VT.Six w b' o' k bb m s t a len cap) (hne : b' ≠ nb) : VT.Six ((((((w.setCell ⟨nb, o, none⟩ v0).setCell ⟨nb, o + 1, none⟩ v1).setCell ⟨nb, o + 2, none⟩ v2).setCell ⟨nb, o + 3, none⟩ v3).setCell ⟨nb, o + 4, none⟩ v4).setCell ⟨nb, o + 5, none⟩ v5) b' o' k bb m s t a len cap := by
  obtain ⟨h0, e0, e1, e2, e3, e4, e5⟩ := h
  refine ⟨by rw [put_size]; exact h0, ?_, ?_, ?_, ?_, ?_, ?_⟩ <;> rw [put_cell w nb o v0 v1 v2 v3 v4 v5 hne] <;> assumption
theorem put_own {b' : Nat} (h : Own w b') (hne : b' ≠ nb) : Own ((((((w.setCell ⟨nb, o, none⟩ v0).setCell ⟨nb, o + 1, none⟩ v1).setCell ⟨nb, o + 2, none⟩ v2).setCell ⟨nb, o + 3, none⟩ v3).setCell ⟨nb, o + 4, none⟩ v4).setCell ⟨nb, o + 5, none⟩ v5) b' := by
  obtain ⟨s, f0, f1, f2, f3, f4, f5⟩ := h
  exact ⟨put_six w nb o v0 v1 v2 v3 v4 v5 s hne, by rw [put_froz]; exact f0, by rw [put_froz]; exact f1, by rw [put_froz]; exact f2, by rw [put_froz]; exact f3, by rw [put_froz]; exact f4, by rw [put_froz]; exact f5⟩
theorem put_away {n : Nat} (h : nb < n) {x : VT} (hi : x.In w) (hf : x.Fresh n w) : x.In ((((((w.setCell ⟨nb, o, none⟩ v0).setCell ⟨nb, o + 1, none⟩ v1).setCell ⟨nb, o + 2, none⟩ v2).setCell ⟨nb, o + 3, none⟩ v3).setCell ⟨nb, o + 4, none⟩ v4).setCell ⟨nb, o + 5, none⟩ v5) ∧ x.Fresh n ((((((w.setCell ⟨nb, o, none⟩ v0).setCell ⟨nb, o + 1, none⟩ v1).setCell ⟨nb, o + 2, none⟩ v2).setCell ⟨nb, o + 3, none⟩ v3).setCell ⟨nb, o + 4, none⟩ v4).setCell ⟨nb, o + 5, none⟩ v5) :=
  VT.away (fun bl i hb => put_cell w nb o v0 v1 v2 v3 v4 v5 (by omega)) (fun bl i _ => put_froz w nb o v0 v1 v2 v3 v4 v5 bl i) x hi hf
def putF (o : Nat) (v0 v1 v2 v3 v4 v5 : Value) (F : Nat → Value) : Nat → Value := fun j => if j = o + 5 then v5 else if j = o + 4 then v4 else if j = o + 3 then v3 else if j = o + 2 then v2 else if j = o + 1 then v1 else if j = o then v0 else F j
theorem put_row {t : TypeId} {n : Nat} {F : Nat → Value} (h : w.rowIs nb t n F) : ((((((w.setCell ⟨nb, o, none⟩ v0).setCell ⟨nb, o + 1, none⟩ v1).setCell ⟨nb, o + 2, none⟩ v2).setCell ⟨nb, o + 3, none⟩ v3).setCell ⟨nb, o + 4, none⟩ v4).setCell ⟨nb, o + 5, none⟩ v5).rowIs nb t n (putF o v0 v1 v2 v3 v4 v5 F) :=
  (((((h.set o v0).set (o + 1) v1).set (o + 2) v2).set (o + 3) v3).set (o + 4) v4).set (o + 5) v5
end
theorem row_below {w w' : World} {b : Nat} {t : TypeId} {n : Nat} {F : Nat → Value} (h : w.rowIs b t n F) (k : Below w.heap.size w w') : w'.rowIs b t n F := h.of_block (k.block b h.lt)
theorem putF_in (o : Nat) (v0 v1 v2 v3 v4 v5 : Value) (F : Nat → Value) : putF o v0 v1 v2 v3 v4 v5 F o = v0 ∧ putF o v0 v1 v2 v3 v4 v5 F (o + 1) = v1 ∧ putF o v0 v1 v2 v3 v4 v5 F (o + 2) = v2 ∧ putF o v0 v1 v2 v3 v4 v5 F (o + 3) = v3 ∧ putF o v0 v1 v2 v3 v4 v5 F (o + 4) = v4 ∧ putF o v0 v1 v2 v3 v4 v5 F (o + 5) = v5 := by
  unfold putF
  refine ⟨?_, ?_, ?_, ?_, ?_, ?_⟩ <;> simp
theorem putF_out {o : Nat} {v0 v1 v2 v3 v4 v5 : Value} {F : Nat → Value} {i : Nat} (h : i < o ∨ o + 6 ≤ i) : putF o v0 v1 v2 v3 v4 v5 F i = F i := by
  unfold putF
  rw [if_neg (by omega), if_neg (by omega), if_neg (by omega), if_neg (by omega), if_neg (by omega), if_neg (by omega)]
end Go.Proofs.Ythccmlkcdinfdac

/- A block of the call's own that holds one value: made, kept, written. -/
import Derived.Test.YthccmlkcdinfdacTree
import Derived.Test.YthccmlkcdinfdacKeep
namespace Go.Proofs.Ythccmlkcdinfdac
open Go.RowKit

def Own (w : World) (b : Nat) : Prop := VT.Six w b 0 0 false 0 0 ⟨#[]⟩ none 0 0 ∧ w.frozen? ⟨b, 0, none⟩ = false ∧ w.frozen? ⟨b, 1, none⟩ = false ∧ w.frozen? ⟨b, 2, none⟩ = false ∧ w.frozen? ⟨b, 3, none⟩ = false ∧ w.frozen? ⟨b, 4, none⟩ = false ∧ w.frozen? ⟨b, 5, none⟩ = false
theorem Own.below {w w' : World} {b : Nat} (h : Own w b) (k : Below w.heap.size w w') : Own w' b := by
  obtain ⟨s, f0, f1, f2, f3, f4, f5⟩ := h
  exact ⟨s.below k, kfroz k s.1 f0, kfroz k s.1 f1, kfroz k s.1 f2, kfroz k s.1 f3, kfroz k s.1 f4, kfroz k s.1 f5⟩
theorem Own.new (w : World) (t : TypeId) : Own (w.alloc (Obj.cells #[.int .i64 0, .bool false, .int .i64 0, .int .i64 0, .string ⟨#[]⟩, .slice none 0 0] t)) w.heap.size :=
  ⟨⟨by simp, by go_simp, by go_simp, by go_simp, by go_simp, by go_simp, by go_simp⟩, by go_simp, by go_simp, by go_simp, by go_simp, by go_simp, by go_simp⟩
theorem Own.put {w : World} {b : Nat} (h : Own w b) (K : Int) (B : Bool) (M S : Int) (T : ByteArray) (A : Option Addr) (L C : Nat) :
    VT.Six ((((((w.setCell ⟨b, 0, none⟩ (.int .i64 K)).setCell ⟨b, 1, none⟩ (.bool B)).setCell ⟨b, 2, none⟩ (.int .i64 M)).setCell ⟨b, 3, none⟩ (.int .i64 S)).setCell ⟨b, 4, none⟩ (.string T)).setCell ⟨b, 5, none⟩ (.slice A L C)) b 0 K B M S T A L C := by
  obtain ⟨⟨h0, e0, e1, e2, e3, e4, e5⟩, -⟩ := h
  simp only [Nat.zero_add] at e0 e1 e2 e3 e4 e5
  refine ⟨by simpa [World.setCell] using h0, ?_, ?_, ?_, ?_, ?_, ?_⟩ <;> (try simp only [Nat.zero_add]) <;> (first | (go_simp; done) | (go_simp; exact World.cell?_setCell_same' _ _ _ (by go_simp)) | exact World.cell?_setCell_same' _ _ _ (by go_simp))
theorem six_other {w : World} {b' o : Nat} {k : Int} {bb : Bool} {m s : Int} {t : ByteArray} {a : Option Addr} {len cap : Nat} (h : VT.Six w b' o k bb m s t a len cap) {b : Nat} (hne : b' ≠ b) (v0 v1 v2 v3 v4 v5 : Value) :
    VT.Six ((((((w.setCell ⟨b, 0, none⟩ v0).setCell ⟨b, 1, none⟩ v1).setCell ⟨b, 2, none⟩ v2).setCell ⟨b, 3, none⟩ v3).setCell ⟨b, 4, none⟩ v4).setCell ⟨b, 5, none⟩ v5) b' o k bb m s t a len cap := by
  obtain ⟨h0, e0, e1, e2, e3, e4, e5⟩ := h
  exact ⟨by simpa [World.setCell] using h0, by go_simp, by go_simp, by go_simp, by go_simp, by go_simp, by go_simp⟩
theorem Own.other {w : World} {b' : Nat} (h : Own w b') {b : Nat} (hne : b' ≠ b) (v0 v1 v2 v3 v4 v5 : Value) :
    Own ((((((w.setCell ⟨b, 0, none⟩ v0).setCell ⟨b, 1, none⟩ v1).setCell ⟨b, 2, none⟩ v2).setCell ⟨b, 3, none⟩ v3).setCell ⟨b, 4, none⟩ v4).setCell ⟨b, 5, none⟩ v5) b' := by
  obtain ⟨s, f0, f1, f2, f3, f4, f5⟩ := h
  exact ⟨six_other s hne _ _ _ _ _ _, by go_simp, by go_simp, by go_simp, by go_simp, by go_simp, by go_simp⟩
end Go.Proofs.Ythccmlkcdinfdac

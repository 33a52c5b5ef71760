/- Three truth values: plain reckoning. -/
import Derived.Test.YthccmlkcdinfdacVMath
namespace Go.Proofs.Ythccmlkcdinfdac
open Go.RowKit

/- a value that is a kind and a Bool alone. -/
def tval (k : Int) (b : Bool) : Value := .agg #[.int .i64 k, .bool b, .int .i64 0, .int .i64 0, .string ⟨#[]⟩, .slice none 0 0]
def trB (k : Int) (b : Bool) : Bool := decide (k = 1) && b
def unB (k : Int) (b : Bool) : Bool := decide (k = 1) && !b
def andK (u1 u2 y1 y2 : Bool) : Int := if u1 = true then 1 else if u2 = true then 1 else if y1 = true then if y2 = true then 1 else 0 else 0
def andB (u1 u2 y1 y2 : Bool) : Bool := if u1 = true then false else if u2 = true then false else if y1 = true then y2 else false
def orK (y1 y2 u1 u2 : Bool) : Int := if y1 = true then 1 else if y2 = true then 1 else if u1 = true then if u2 = true then 1 else 0 else 0
def orB (y1 y2 : Bool) : Bool := if y1 = true then true else y2
def notK (k : Int) : Int := if k = 1 then 1 else 0
def notB (k : Int) (b : Bool) : Bool := if k = 1 then !b else false
theorem set6 {n : Nat} {V x : World} (h : Below n V x) {bl : Nat} (hb : n ≤ bl) (v0 v1 v2 v3 v4 v5 : Value) :
    Below n V ((((((x.setCell ⟨bl, 0, none⟩ v0).setCell ⟨bl, 1, none⟩ v1).setCell ⟨bl, 2, none⟩ v2).setCell ⟨bl, 3, none⟩ v3).setCell ⟨bl, 4, none⟩ v4).setCell ⟨bl, 5, none⟩ v5) :=
  (((((h.setCell hb v0).setCell hb v1).setCell hb v2).setCell hb v3).setCell hb v4).setCell hb v5
end Go.Proofs.Ythccmlkcdinfdac

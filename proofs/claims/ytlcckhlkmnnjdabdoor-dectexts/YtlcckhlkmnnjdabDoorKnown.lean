/- The contract of the statements' own 'known': a third, and a parsed text, are as the document says. -/
import Derived.Test.YtlcckhlkmnnjdabDoorDiv
import Derived.Test.YtlcckhlkmnnjdabDoorParse
namespace Go.Proofs.YtlcckhlkmnnjdabDoor
open Go.RowKit

def knownL : List UInt8 := [45, 49, 50, 46, 53, 48]
def knownR : List UInt8 := [49, 50, 46, 53, 48]

theorem known_div (w : World) :
    Calls Tryd.prog 19 #[.agg #[.int .i64 1, .int .i64 0], .agg #[.int .i64 3, .int .i64 0]] w fun e w' => e = .returned (.tuple #[.agg #[.int .i64 3333, .int .i64 4], .int .i64 0]) ∧ Below w.heap.size w w' := by
  have h := div_any 1 0 3 0 w (by decide) (by decide) (by decide)
  rw [show fitM (divQ 1 0 3 0) 4 = 3333 by decide +kernel, show fitS (divQ 1 0 3 0) 4 = 4 by decide +kernel, show fitE (divQ 1 0 3 0) 4 = 0 by decide +kernel] at h
  exact h

theorem known_pre : ParsePre knownL knownR (knownR.take 2) (knownR.drop 3) true true :=
  ⟨fun w => cutp_yes _ w (by decide), fun w => cut_yes knownR 2 w (by decide) (by decide +kernel) (by decide)⟩

theorem known_parse (w : World) :
    Calls Tryd.prog 4 #[.string ⟨#[45, 49, 50, 46, 53, 48]⟩] w fun e w' => e = .returned (.tuple #[.agg #[.int .i64 (-125), .int .i64 1], .int .i64 0]) ∧ Below w.heap.size w w' := by
  have h := parse_ok knownL knownR (knownR.take 2) (knownR.drop 3) true true w known_pre (by decide +kernel) (fun _ => by decide +kernel) (by decide +kernel) (by decide) (by decide)
  rw [show fitM (parseM (knownR.take 2) (knownR.drop 3) true) (knownR.drop 3).length = -125 by decide +kernel, show fitS (parseM (knownR.take 2) (knownR.drop 3) true) (knownR.drop 3).length = 1 by decide +kernel, show fitE (parseM (knownR.take 2) (knownR.drop 3) true) (knownR.drop 3).length = 0 by decide +kernel] at h
  exact h

set_option maxHeartbeats 800000 in
theorem known_any (w : World) : Calls Tryd.prog 7 #[] w fun e w' => e = .returned (.bool true) ∧ Below w.heap.size w w' := by
  go_enter Tryd.func7, Tryd.ntmps7
  go_wp2_with fail
  refine (known_div _).mono ?_
  rintro e w1 ⟨rfl, b1⟩
  go_wp2_with fail
  refine (known_parse _).mono ?_
  rintro e w2 ⟨rfl, b2⟩
  obtain ⟨c2, f2⟩ := bcell b2
  have z1 := b1.size
  have z2 : w1.heap.size < w2.heap.size := by have := b2.size; simp at this; omega
  go_wp2
  go_ret
  exact ⟨rfl, (bstep (b1.alloc z1 _) b2).alloc (by omega) _⟩

end Go.Proofs.YtlcckhlkmnnjdabDoor

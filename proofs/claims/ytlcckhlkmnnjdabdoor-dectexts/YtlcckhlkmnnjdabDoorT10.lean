/- A rest by ten. -/
import Derived.Test.YtlcckhlkmnnjdabDoorB0
namespace Go.Proofs.YtlcckhlkmnnjdabDoor
open Go.RowKit

theorem tmod10 (m : Int) : (m.tmod 10 == 0) = decide (m % 10 = 0) := by
  have : (m.tmod 10 = 0) ↔ (m % 10 = 0) := by
    rw [← Int.dvd_iff_tmod_eq_zero, ← Int.dvd_iff_emod_eq_zero]
  by_cases h0 : m % 10 = 0
  · simp [h0, this.2 h0]
  · have h1 := mt this.1 h0
    simp [h0, h1]

end Go.Proofs.YtlcckhlkmnnjdabDoor

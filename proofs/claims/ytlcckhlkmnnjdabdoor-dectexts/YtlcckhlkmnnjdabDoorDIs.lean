/- The contract of dec's Is. -/
import Derived.Test.YtlcckhlkmnnjdabDoorPow
import Derived.Test.YtlcckhlkmnnjdabDoorT10
import Derived.Deep.QuietTactic
import Derived.BigQuiet
namespace Go.Proofs.YtlcckhlkmnnjdabDoor
open Go.RowKit

set_option maxHeartbeats 400000 in
theorem is_any (m s : Int) (w : World) :
    Calls Tryd.prog 20 #[.agg #[.int .i64 m, .int .i64 s]] w fun e w' => e = .returned (.bool (isB m s)) ∧ Below w.heap.size w w' := by
  unfold isB
  have tm := tmod10 m
  by_cases h1 : okM m = true
  · by_cases h2 : 0 ≤ s
    · by_cases h3 : s ≤ 4
      · by_cases h4 : s = 0
        · subst h4
          clear tm
          go_enter Tryd.func20, Tryd.ntmps20
          go_wp2_with (go_at_call 28; refine (holds_any _ _).mono ?_; rintro e w' ⟨rfl, rfl⟩)
          go_ret
          exact ⟨ret_bool (by simp [h1]), (Below.refl _ _).alloc (Nat.le_refl _) _⟩
        · have h4' : (s == 0) = false := by simpa using h4
          by_cases h5 : m % 10 = 0
          · have tm' : (m.tmod 10 != 0) = false := by unfold bne; rw [tm]; simp [h5]
            have H5 := hide h5
            have H4 := hide h4
            clear tm h4 h5
            go_enter Tryd.func20, Tryd.ntmps20
            go_wp2_with (go_at_call 28; refine (holds_any _ _).mono ?_; rintro e w' ⟨rfl, rfl⟩)
            go_ret
            exact ⟨ret_bool (by have := unhide H5; have := unhide H4; simp [*]), (Below.refl _ _).alloc (Nat.le_refl _) _⟩
          · have tm' : (m.tmod 10 != 0) = true := by unfold bne; rw [tm]; simp [h5]
            have H5 := hide h5
            have H4 := hide h4
            clear tm h4 h5
            go_enter Tryd.func20, Tryd.ntmps20
            go_wp2_with (go_at_call 28; refine (holds_any _ _).mono ?_; rintro e w' ⟨rfl, rfl⟩)
            go_ret
            exact ⟨ret_bool (by have := unhide H5; have := unhide H4; simp [*]), (Below.refl _ _).alloc (Nat.le_refl _) _⟩
      · clear tm
        go_enter Tryd.func20, Tryd.ntmps20
        go_wp2_with (go_at_call 28; refine (holds_any _ _).mono ?_; rintro e w' ⟨rfl, rfl⟩)
        go_ret
        exact ⟨ret_bool (by have : ¬ s ≤ 4 := by omega
                            simp [h1, this]), (Below.refl _ _).alloc (Nat.le_refl _) _⟩
    · clear tm
      go_enter Tryd.func20, Tryd.ntmps20
      go_wp2_with (go_at_call 28; refine (holds_any _ _).mono ?_; rintro e w' ⟨rfl, rfl⟩)
      go_ret
      exact ⟨ret_bool (by have : ¬ 0 ≤ s := by omega
                          simp [h1, this]), (Below.refl _ _).alloc (Nat.le_refl _) _⟩
  · have h1' : okM m = false := by simpa using h1
    clear tm h1
    go_enter Tryd.func20, Tryd.ntmps20
    go_wp2_with (go_at_call 28; refine (holds_any _ _).mono ?_; rintro e w' ⟨rfl, rfl⟩)
    go_ret
    exact ⟨ret_bool (by simp [h1']), (Below.refl _ _).alloc (Nat.le_refl _) _⟩

end Go.Proofs.YtlcckhlkmnnjdabDoor

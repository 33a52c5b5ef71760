/- The contracts of the document's own small functions: power, half, Is, Fit. -/
import Derived.Test.YtlcckhlkmnnjdabDoorIs
import Derived.Test.YtlcckhlkmnnjdabDoorRPow
import Derived.Test.YtlcckhlkmnnjdabDoorTMod
namespace Go.Proofs.YtlcckhlkmnnjdabDoor
open Go.RowKit

set_option maxHeartbeats 800000 in
theorem rhalf_any (n d : Int) (w : World) (hd : 1 ≤ d) (hd2 : d ≤ 2000000000000000000) (h1 : -2000000000000000000 ≤ n) (h2 : n ≤ 2000000000000000000) :
    Calls Tryd.prog 30 #[.int .i64 n, .int .i64 d] w fun e w' => e = .returned (.int .i64 (half n d)) ∧ ∃ k, w' = w.drewN k := by
  have q1 := div_abs n d 2000000000000000000 hd (by omega) h1 h2
  have r1 := Int.emod_nonneg n (b := d) (by omega)
  have r2 := Int.emod_lt_of_pos n (b := d) (by omega)
  have tb := tdiv_bd n d 2000000000000000000 hd (by omega) h1 h2
  have ⟨fa, fb⟩ := tmod_facts n d hd
  have t2 := i64_and1 (n / d)
  unfold half
  generalize n / d = q at *
  generalize n % d = r at *
  by_cases hneg : n.tmod d < 0
  · have ⟨e1, e2⟩ := fa hneg
    have tb2 : -2000000000000000000 ≤ n.tmod d := by omega
    clear fa fb
    by_cases c1 : d - r < r
    · rw [if_pos (Or.inl (show d < 2 * r by omega))]
      clear t2
      go_enter Tryd.func30, Tryd.ntmps30
      go_wp2_with fail
      go_quiet (fail)
      go_wp2
      go_ret
      exact ⟨rfl, ⟨_, rfl⟩⟩
    · by_cases c2 : r = d - r
      · by_cases c3 : q % 2 ≠ 0
        · rw [if_pos (Or.inr ⟨show 2 * r = d by omega, c3⟩)]
          have t3 : (bits .and .i64 q 1 == 1) = true := by rw [t2]; simp; omega
          have c4 : (r == d - r) = true := by simp [← c2]
          clear t2 c2 c3
          go_enter Tryd.func30, Tryd.ntmps30
          go_wp2_with fail
          go_quiet (fail)
          go_wp2
          go_ret
          exact ⟨rfl, ⟨_, rfl⟩⟩
        · rw [if_neg (by omega)]
          have t3 : (bits .and .i64 q 1 == 1) = false := by rw [t2]; simp; omega
          have c4 : (r == d - r) = true := by simp [← c2]
          clear t2 c2 c3
          go_enter Tryd.func30, Tryd.ntmps30
          go_wp2_with fail
          go_quiet (fail)
          go_wp2
          go_ret
          exact ⟨rfl, ⟨_, rfl⟩⟩
      · rw [if_neg (by omega)]
        have c4 : (r == d - r) = false := by simpa using c2
        clear t2
        go_enter Tryd.func30, Tryd.ntmps30
        go_wp2_with fail
        go_quiet (fail)
        go_wp2
        go_ret
        exact ⟨rfl, ⟨_, rfl⟩⟩
  · have ⟨e1, e2⟩ := fb hneg
    clear fa fb
    rw [e1] at tb
    rw [e2] at hneg
    by_cases c1 : d - r < r
    · rw [if_pos (Or.inl (show d < 2 * r by omega))]
      clear t2
      go_enter Tryd.func30, Tryd.ntmps30
      go_wp2_with fail
      go_quiet (fail)
      go_wp2
      go_ret
      exact ⟨rfl, ⟨_, rfl⟩⟩
    · by_cases c2 : r = d - r
      · by_cases c3 : q % 2 ≠ 0
        · rw [if_pos (Or.inr ⟨show 2 * r = d by omega, c3⟩)]
          have t3 : (bits .and .i64 q 1 == 1) = true := by rw [t2]; simp; omega
          have c4 : (r == d - r) = true := by simp [← c2]
          clear t2 c2 c3
          go_enter Tryd.func30, Tryd.ntmps30
          go_wp2_with fail
          go_quiet (fail)
          go_wp2
          go_ret
          exact ⟨rfl, ⟨_, rfl⟩⟩
        · rw [if_neg (by omega)]
          have t3 : (bits .and .i64 q 1 == 1) = false := by rw [t2]; simp; omega
          have c4 : (r == d - r) = true := by simp [← c2]
          clear t2 c2 c3
          go_enter Tryd.func30, Tryd.ntmps30
          go_wp2_with fail
          go_quiet (fail)
          go_wp2
          go_ret
          exact ⟨rfl, ⟨_, rfl⟩⟩
      · rw [if_neg (by omega)]
        have c4 : (r == d - r) = false := by simpa using c2
        clear t2
        go_enter Tryd.func30, Tryd.ntmps30
        go_wp2_with fail
        go_quiet (fail)
        go_wp2
        go_ret
        exact ⟨rfl, ⟨_, rfl⟩⟩

theorem rhalf_below (n d : Int) (w : World) (hd : 1 ≤ d) (hd2 : d ≤ 2000000000000000000) (h1 : -2000000000000000000 ≤ n) (h2 : n ≤ 2000000000000000000) :
    Calls Tryd.prog 30 #[.int .i64 n, .int .i64 d] w fun e w' => e = .returned (.int .i64 (half n d)) ∧ Below w.heap.size w w' :=
  (rhalf_any n d w hd hd2 h1 h2).mono fun _ _ h => ⟨h.1, by obtain ⟨k, rfl⟩ := h.2; exact below_drewN (Below.refl _ _) _⟩

end Go.Proofs.YtlcckhlkmnnjdabDoor

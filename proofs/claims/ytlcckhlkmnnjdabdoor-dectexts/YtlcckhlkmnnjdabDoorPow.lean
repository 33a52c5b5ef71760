/- The contracts of dec's small functions: power, holds. -/
import Derived.Test.YtlcckhlkmnnjdabDoorB0
namespace Go.Proofs.YtlcckhlkmnnjdabDoor
open Go.RowKit

set_option maxHeartbeats 400000 in
theorem power_any (n : Int) (w : World) (h0 : 0 ≤ n) (h8 : n ≤ 8) :
    Calls Tryd.prog 14 #[.int .i64 n] w fun e w' => e = .returned (.int .i64 (p10 n.toNat)) ∧ w' = w := by
  obtain ⟨m, rfl⟩ := Int.eq_ofNat_of_zero_le h0
  rw [Int.toNat_natCast]
  go_enter Tryd.func14, Tryd.ntmps14
  go_wp2
  go_loop [3, 5] (fun p i => ∃ k : Nat, k ≤ m ∧ i = .int .i64 k ∧ p = .int .i64 (p10 k)) (fun _ i => m - (intOf i).toNat)
  case atStart => exact ⟨0, Nat.zero_le _, rfl, rfl⟩
  case round =>
    obtain ⟨k, hk, rfl, rfl⟩ := hrel
    have b1 := p10_pos k
    have b2 := p10_bd (n := k) (by omega)
    by_cases hlt : k < m
    · go_wp2
      go_round
      case rel => exact ⟨k + 1, by omega, by go_num, by rw [p10_succ]⟩
      case measure => simp [intOf]; omega
    · have e : k = m := by omega
      subst e
      go_wp2
      go_ret
      exact ⟨rfl, rfl⟩

set_option maxHeartbeats 400000 in
theorem holds_any (m : Int) (w : World) :
    Calls Tryd.prog 28 #[.int .i64 m] w fun e w' => e = .returned (.bool (okM m)) ∧ w' = w := by
  by_cases h1 : -1000000000 ≤ m
  · by_cases h2 : m ≤ 1000000000
    · go_enter Tryd.func28, Tryd.ntmps28
      go_wp2
      go_ret
      exact ⟨ret_bool (by simp [okM, h1, h2]), rfl⟩
    · go_enter Tryd.func28, Tryd.ntmps28
      go_wp2
      go_ret
      exact ⟨ret_bool (by simp [okM, h1, h2]), rfl⟩
  · go_enter Tryd.func28, Tryd.ntmps28
    go_wp2
    go_ret
    exact ⟨ret_bool (by simp [okM]; omega), rfl⟩

end Go.Proofs.YtlcckhlkmnnjdabDoor

/- The contracts of dec's small functions: floor, halfEven (power and holds: Pow). -/
import Derived.Test.YtlcckhlkmnnjdabDoorPow
namespace Go.Proofs.YtlcckhlkmnnjdabDoor
open Go.RowKit

theorem tdiv_floor (n d : Int) (hd : 1 ≤ d) : (n.tmod d < 0 → n.tdiv d - 1 = n / d) ∧ (¬ n.tmod d < 0 → n.tdiv d = n / d) := by
  have hm := Int.tmod_lt_of_pos n (b := d) (by omega)
  have hm2 := Int.lt_tmod_of_pos n (b := d) (by omega)
  have he := Int.mul_tdiv_add_tmod n d
  have h1 := Int.emod_nonneg n (b := d) (by omega)
  have h2 := Int.emod_lt_of_pos n (b := d) (by omega)
  have h3 := Int.mul_ediv_add_emod n d
  constructor
  · intro h
    apply Eq.symm
    rw [Int.ediv_eq_iff_of_pos (by omega)]
    have : (n.tdiv d - 1) * d = d * n.tdiv d - d := by rw [Int.sub_mul, Int.mul_comm]; omega
    have h' : (n.tdiv d - 1 + 1) * d = d * n.tdiv d := by rw [Int.sub_add_cancel, Int.mul_comm]
    constructor <;> omega
  · intro h
    apply Eq.symm
    rw [Int.ediv_eq_iff_of_pos (by omega)]
    have : (n.tdiv d) * d = d * n.tdiv d := Int.mul_comm _ _
    have h' : (n.tdiv d + 1) * d = d * n.tdiv d + d := by rw [Int.add_mul, Int.mul_comm]; omega
    constructor <;> omega

theorem tdiv_bd (n d B : Int) (hd : 1 ≤ d) (h0 : 0 ≤ B) (h1 : -B ≤ n) (h2 : n ≤ B) : -B ≤ n.tdiv d ∧ n.tdiv d ≤ B + 1 := by
  have ⟨a, b⟩ := tdiv_floor n d hd
  have := div_abs n d B hd h0 h1 h2
  by_cases h : n.tmod d < 0
  · have := a h; omega
  · have := b h; omega

set_option maxHeartbeats 400000 in
theorem floor_any (n d : Int) (w : World) (hd : 1 ≤ d) (hd2 : d ≤ 2000000000000000000) (h1 : -2000000000000000000 ≤ n) (h2 : n ≤ 2000000000000000000) :
    Calls Tryd.prog 40 #[.int .i64 n, .int .i64 d] w fun e w' => e = .returned (.int .i64 (n / d)) ∧ w' = w := by
  have ⟨fa, fb⟩ := tdiv_floor n d hd
  have tb := tdiv_bd n d 2000000000000000000 hd (by omega) h1 h2
  by_cases h : n.tmod d < 0
  · have F := hide (fa h)
    clear fa fb
    go_enter Tryd.func40, Tryd.ntmps40
    go_wp2
    go_ret
    exact ⟨ret_int (by rw [← unhide F]), rfl⟩
  · have F := hide (fb h)
    clear fa fb
    go_enter Tryd.func40, Tryd.ntmps40
    go_wp2
    go_ret
    exact ⟨ret_int (by rw [← unhide F]), rfl⟩

theorem tmod2 (q : Int) : (q.tmod 2 != 0) = decide (q % 2 ≠ 0) := by
  have : (q.tmod 2 = 0) ↔ (q % 2 = 0) := by
    rw [← Int.dvd_iff_tmod_eq_zero, ← Int.dvd_iff_emod_eq_zero]
  by_cases h0 : q % 2 = 0
  · simp [h0, this.2 h0]
  · have h1 := mt this.1 h0
    simp [h0, h1]

set_option maxHeartbeats 400000 in
theorem half_any (n d : Int) (w : World) (hd : 1 ≤ d) (hd2 : d ≤ 2000000000000000000) (h1 : -2000000000000000000 ≤ n) (h2 : n ≤ 2000000000000000000) :
    Calls Tryd.prog 27 #[.int .i64 n, .int .i64 d] w fun e w' => e = .returned (.int .i64 (half n d)) ∧ w' = w := by
  have q1 := div_abs n d 2000000000000000000 hd (by omega) h1 h2
  have e1 : n - n / d * d = n % d := by have := Int.mul_ediv_add_emod n d; rw [Int.mul_comm] at this; omega
  have r1 := Int.emod_nonneg n (b := d) (by omega)
  have r2 := Int.emod_lt_of_pos n (b := d) (by omega)
  have q2 : -4000000000000000000 ≤ n / d * d ∧ n / d * d ≤ 4000000000000000000 := by omega
  have t2 := tmod2 (n / d)
  unfold half
  generalize hq : n / d = q at *
  generalize hr : n % d = r at *
  have HQ := hide hq; have HR := hide hr
  clear hq hr
  by_cases c1 : d - r < r
  · have fin := hide (if_pos (Or.inl (show d < 2 * r by omega)) : (if d < 2 * r ∨ (2 * r = d ∧ q % 2 ≠ 0) then q + 1 else q) = q + 1)
    rw [unhide fin]
    clear t2
    go_enter Tryd.func27, Tryd.ntmps27
    go_wp2_with fail
    refine (floor_any _ _ _ hd hd2 h1 h2).mono ?_
    rintro e w' ⟨rfl, rfl⟩
    rw [unhide HQ]
    go_wp2
    go_ret
    exact ⟨rfl, rfl⟩
  · by_cases c2 : r = d - r
    · by_cases c3 : q % 2 ≠ 0
      · have fin := hide (if_pos (Or.inr ⟨show 2 * r = d by omega, c3⟩) : (if d < 2 * r ∨ (2 * r = d ∧ q % 2 ≠ 0) then q + 1 else q) = q + 1)
        rw [unhide fin]
        have t3 : (q.tmod 2 != 0) = true := by rw [t2]; simp [c3]
        have c4 : (r == d - r) = true := by simp [← c2]
        clear t2 c2 c3
        go_enter Tryd.func27, Tryd.ntmps27
        go_wp2_with fail
        refine (floor_any _ _ _ hd hd2 h1 h2).mono ?_
        rintro e w' ⟨rfl, rfl⟩
        rw [unhide HQ]
        go_wp2
        go_ret
        exact ⟨rfl, rfl⟩
      · have fin := hide (if_neg (by omega) : (if d < 2 * r ∨ (2 * r = d ∧ q % 2 ≠ 0) then q + 1 else q) = q)
        rw [unhide fin]
        have t3 : (q.tmod 2 != 0) = false := by rw [t2]; simpa using c3
        have c4 : (r == d - r) = true := by simp [← c2]
        clear t2 c2 c3
        go_enter Tryd.func27, Tryd.ntmps27
        go_wp2_with fail
        refine (floor_any _ _ _ hd hd2 h1 h2).mono ?_
        rintro e w' ⟨rfl, rfl⟩
        rw [unhide HQ]
        go_wp2
        go_ret
        exact ⟨rfl, rfl⟩
    · have fin := hide (if_neg (by omega) : (if d < 2 * r ∨ (2 * r = d ∧ q % 2 ≠ 0) then q + 1 else q) = q)
      rw [unhide fin]
      have c4 : (r == d - r) = false := by simpa using c2
      clear t2
      go_enter Tryd.func27, Tryd.ntmps27
      go_wp2_with fail
      refine (floor_any _ _ _ hd hd2 h1 h2).mono ?_
      rintro e w' ⟨rfl, rfl⟩
      rw [unhide HQ]
      go_wp2
      go_ret
      exact ⟨rfl, rfl⟩

end Go.Proofs.YtlcckhlkmnnjdabDoor

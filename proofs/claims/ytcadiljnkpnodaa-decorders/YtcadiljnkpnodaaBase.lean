/- The contracts of dec's small functions: power, floor, halfEven, holds. -/
import Derived.Test.YtcadiljnkpnodaaProg
import Derived.Test.YtcadiljnkpnodaaMath
import Derived.WalkKit
import Derived.WalkSpells
import Derived.WalkLawsBesides
namespace Go.Proofs.Ytcadiljnkpnodaa
open Go.RowKit

theorem ret_int {k : IntKind} {a b : Int} (h : a = b) : Ending.returned (.int k a) = .returned (.int k b) := by rw [h]
theorem hide {p : Prop} (h : p) : Hid p := h
theorem unhide {p : Prop} (h : Hid p) : p := h
theorem bcell {W w1 : World} (hb : Below W.heap.size W w1) : (∀ b o, b < W.heap.size → w1.cell? ⟨b, o, none⟩ = W.cell? ⟨b, o, none⟩) ∧ (∀ b o, b < W.heap.size → w1.frozen? ⟨b, o, none⟩ = W.frozen? ⟨b, o, none⟩) :=
  ⟨fun b o h => hb.cell (p := ⟨b, o, none⟩) h, fun b o h => hb.frozen (p := ⟨b, o, none⟩) h⟩
theorem bstep {W w1 w2 : World} (h : Below W.heap.size W w1) (k : Below w1.heap.size w1 w2) : Below W.heap.size W w2 := h.trans (k.mono h.size)
theorem below1 (w : World) (a : Obj) : Below w.heap.size w (w.alloc a) := (Below.refl _ _).alloc (Nat.le_refl _) _
theorem below2 (w : World) (a b : Obj) : Below w.heap.size w ((w.alloc a).alloc b) := (below1 w a).alloc (by simp) _
theorem below3 (w : World) (a b c : Obj) : Below w.heap.size w (((w.alloc a).alloc b).alloc c) := (below2 w a b).alloc (by simp; omega) _
theorem i64_in {n : Int} (h1 : -9223372036854775808 ≤ n) (h2 : n ≤ 9223372036854775807) : IntKind.i64.wrap n = n := by
  show (if (IntKind.i64.signed && decide (n % (2 ^ 64 : Int) ≥ (2 ^ 63 : Int))) = true then n % (2 ^ 64 : Int) - (2 ^ 64 : Int) else n % (2 ^ 64 : Int)) = n
  simp only [IntKind.signed, Bool.true_and, decide_eq_true_eq]
  split <;> omega
theorem ret_bool {a b : Bool} (h : a = b) : Ending.returned (.bool a) = .returned (.bool b) := by rw [h]

set_option maxHeartbeats 400000 in
theorem power_any (n : Int) (w : World) (h0 : 0 ≤ n) (h8 : n ≤ 8) :
    Calls Try.prog 29 #[.int .i64 n] w fun e w' => e = .returned (.int .i64 (p10 n.toNat)) ∧ w' = w := by
  obtain ⟨m, rfl⟩ := Int.eq_ofNat_of_zero_le h0
  rw [Int.toNat_natCast]
  go_enter Try.func29, Try.ntmps29
  go_wp2
  go_loop [3, 5] (fun p i => ∃ k : Nat, k ≤ m ∧ i = .int .i64 k ∧ p = .int .i64 (p10 k)) (fun _ i => m - (intOf i).toNat)
  case atStart => exact ⟨0, Nat.zero_le _, rfl, rfl⟩
  case round =>
    obtain ⟨k, hk, rfl, rfl⟩ := hrel
    have b1 := p10_pos k
    have b2 := p10_bd (n := k) (by omega)
    by_cases hlt : k < m
    · go_wp2
      go_round
      case rel => exact ⟨k + 1, by omega, by go_num, by rw [p10_succ]⟩
      case measure => simp [intOf]; omega
    · have e : k = m := by omega
      subst e
      go_wp2
      go_ret
      exact ⟨rfl, rfl⟩

theorem tdiv_floor (n d : Int) (hd : 1 ≤ d) : (n.tmod d < 0 → n.tdiv d - 1 = n / d) ∧ (¬ n.tmod d < 0 → n.tdiv d = n / d) := by
  have hm := Int.tmod_lt_of_pos n (b := d) (by omega)
  have hm2 := Int.lt_tmod_of_pos n (b := d) (by omega)
  have he := Int.mul_tdiv_add_tmod n d
  have h1 := Int.emod_nonneg n (b := d) (by omega)
  have h2 := Int.emod_lt_of_pos n (b := d) (by omega)
  have h3 := Int.mul_ediv_add_emod n d
  constructor
  · intro h
    apply Eq.symm
    rw [Int.ediv_eq_iff_of_pos (by omega)]
    have : (n.tdiv d - 1) * d = d * n.tdiv d - d := by rw [Int.sub_mul, Int.mul_comm]; omega
    have h' : (n.tdiv d - 1 + 1) * d = d * n.tdiv d := by rw [Int.sub_add_cancel, Int.mul_comm]
    constructor <;> omega
  · intro h
    apply Eq.symm
    rw [Int.ediv_eq_iff_of_pos (by omega)]
    have : (n.tdiv d) * d = d * n.tdiv d := Int.mul_comm _ _
    have h' : (n.tdiv d + 1) * d = d * n.tdiv d + d := by rw [Int.add_mul, Int.mul_comm]; omega
    constructor <;> omega

theorem tdiv_bd (n d B : Int) (hd : 1 ≤ d) (h0 : 0 ≤ B) (h1 : -B ≤ n) (h2 : n ≤ B) : -B ≤ n.tdiv d ∧ n.tdiv d ≤ B + 1 := by
  have ⟨a, b⟩ := tdiv_floor n d hd
  have := div_abs n d B hd h0 h1 h2
  by_cases h : n.tmod d < 0
  · have := a h; omega
  · have := b h; omega

set_option maxHeartbeats 400000 in
theorem floor_any (n d : Int) (w : World) (hd : 1 ≤ d) (hd2 : d ≤ 2000000000000000000) (h1 : -2000000000000000000 ≤ n) (h2 : n ≤ 2000000000000000000) :
    Calls Try.prog 36 #[.int .i64 n, .int .i64 d] w fun e w' => e = .returned (.int .i64 (n / d)) ∧ w' = w := by
  have ⟨fa, fb⟩ := tdiv_floor n d hd
  have tb := tdiv_bd n d 2000000000000000000 hd (by omega) h1 h2
  by_cases h : n.tmod d < 0
  · have F := hide (fa h)
    clear fa fb
    go_enter Try.func36, Try.ntmps36
    go_wp2
    go_ret
    exact ⟨ret_int (by rw [← unhide F]), rfl⟩
  · have F := hide (fb h)
    clear fa fb
    go_enter Try.func36, Try.ntmps36
    go_wp2
    go_ret
    exact ⟨ret_int (by rw [← unhide F]), rfl⟩

set_option maxHeartbeats 400000 in
theorem holds_any (m : Int) (w : World) :
    Calls Try.prog 30 #[.int .i64 m] w fun e w' => e = .returned (.bool (okM m)) ∧ w' = w := by
  by_cases h1 : -1000000000 ≤ m
  · by_cases h2 : m ≤ 1000000000
    · go_enter Try.func30, Try.ntmps30
      go_wp2
      go_ret
      exact ⟨ret_bool (by simp [okM, h1, h2]), rfl⟩
    · go_enter Try.func30, Try.ntmps30
      go_wp2
      go_ret
      exact ⟨ret_bool (by simp [okM, h1, h2]), rfl⟩
  · go_enter Try.func30, Try.ntmps30
    go_wp2
    go_ret
    exact ⟨ret_bool (by simp [okM]; omega), rfl⟩

theorem tmod2 (q : Int) : (q.tmod 2 != 0) = decide (q % 2 ≠ 0) := by
  have : (q.tmod 2 = 0) ↔ (q % 2 = 0) := by
    rw [← Int.dvd_iff_tmod_eq_zero, ← Int.dvd_iff_emod_eq_zero]
  by_cases h0 : q % 2 = 0
  · simp [h0, this.2 h0]
  · have h1 := mt this.1 h0
    simp [h0, h1]

set_option maxHeartbeats 400000 in
theorem half_any (n d : Int) (w : World) (hd : 1 ≤ d) (hd2 : d ≤ 2000000000000000000) (h1 : -2000000000000000000 ≤ n) (h2 : n ≤ 2000000000000000000) :
    Calls Try.prog 28 #[.int .i64 n, .int .i64 d] w fun e w' => e = .returned (.int .i64 (half n d)) ∧ w' = w := by
  have q1 := div_abs n d 2000000000000000000 hd (by omega) h1 h2
  have e1 : n - n / d * d = n % d := by have := Int.mul_ediv_add_emod n d; rw [Int.mul_comm] at this; omega
  have r1 := Int.emod_nonneg n (b := d) (by omega)
  have r2 := Int.emod_lt_of_pos n (b := d) (by omega)
  have q2 : -4000000000000000000 ≤ n / d * d ∧ n / d * d ≤ 4000000000000000000 := by omega
  have t2 := tmod2 (n / d)
  unfold half
  generalize hq : n / d = q at *
  generalize hr : n % d = r at *
  have HQ := hide hq; have HR := hide hr
  clear hq hr
  by_cases c1 : d - r < r
  · have fin := hide (if_pos (Or.inl (show d < 2 * r by omega)) : (if d < 2 * r ∨ (2 * r = d ∧ q % 2 ≠ 0) then q + 1 else q) = q + 1)
    rw [unhide fin]
    clear t2
    go_enter Try.func28, Try.ntmps28
    go_wp2_with fail
    refine (floor_any _ _ _ hd hd2 h1 h2).mono ?_
    rintro e w' ⟨rfl, rfl⟩
    rw [unhide HQ]
    go_wp2
    go_ret
    exact ⟨rfl, rfl⟩
  · by_cases c2 : r = d - r
    · by_cases c3 : q % 2 ≠ 0
      · have fin := hide (if_pos (Or.inr ⟨show 2 * r = d by omega, c3⟩) : (if d < 2 * r ∨ (2 * r = d ∧ q % 2 ≠ 0) then q + 1 else q) = q + 1)
        rw [unhide fin]
        have t3 : (q.tmod 2 != 0) = true := by rw [t2]; simp [c3]
        have c4 : (r == d - r) = true := by simp [← c2]
        clear t2 c2 c3
        go_enter Try.func28, Try.ntmps28
        go_wp2_with fail
        refine (floor_any _ _ _ hd hd2 h1 h2).mono ?_
        rintro e w' ⟨rfl, rfl⟩
        rw [unhide HQ]
        go_wp2
        go_ret
        exact ⟨rfl, rfl⟩
      · have fin := hide (if_neg (by omega) : (if d < 2 * r ∨ (2 * r = d ∧ q % 2 ≠ 0) then q + 1 else q) = q)
        rw [unhide fin]
        have t3 : (q.tmod 2 != 0) = false := by rw [t2]; simpa using c3
        have c4 : (r == d - r) = true := by simp [← c2]
        clear t2 c2 c3
        go_enter Try.func28, Try.ntmps28
        go_wp2_with fail
        refine (floor_any _ _ _ hd hd2 h1 h2).mono ?_
        rintro e w' ⟨rfl, rfl⟩
        rw [unhide HQ]
        go_wp2
        go_ret
        exact ⟨rfl, rfl⟩
    · have fin := hide (if_neg (by omega) : (if d < 2 * r ∨ (2 * r = d ∧ q % 2 ≠ 0) then q + 1 else q) = q)
      rw [unhide fin]
      have c4 : (r == d - r) = false := by simpa using c2
      clear t2
      go_enter Try.func28, Try.ntmps28
      go_wp2_with fail
      refine (floor_any _ _ _ hd hd2 h1 h2).mono ?_
      rintro e w' ⟨rfl, rfl⟩
      rw [unhide HQ]
      go_wp2
      go_ret
      exact ⟨rfl, rfl⟩

end Go.Proofs.Ytcadiljnkpnodaa

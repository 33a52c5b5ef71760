/- The contracts of dec's trim and Fit. -/
import Derived.Test.YtlcckhlkmnnjdabDoorBase
import Derived.Test.YtlcckhlkmnnjdabDoorT10
namespace Go.Proofs.YtlcckhlkmnnjdabDoor
open Go.RowKit

theorem tdiv10 (m : Int) (h : m % 10 = 0) : m.tdiv 10 = m / 10 := by
  have ⟨_, b⟩ := tdiv_floor m 10 (by omega)
  apply b
  have : m.tmod 10 = 0 := by rw [← Int.dvd_iff_tmod_eq_zero, Int.dvd_iff_emod_eq_zero]; exact h
  omega

set_option maxHeartbeats 400000 in
theorem trim_any (m s : Int) (w : World) (h0 : 0 ≤ s) (h4 : s ≤ 8) (b1 : -1000000000 ≤ m) (b2 : m ≤ 1000000000) :
    Calls Tryd.prog 29 #[.int .i64 m, .int .i64 s] w fun e w' => e = .returned (.agg #[.int .i64 (trimM m s.toNat), .int .i64 (trimS m s.toNat : Nat)]) ∧ Below w.heap.size w w' := by
  obtain ⟨n, rfl⟩ := Int.eq_ofNat_of_zero_le h0
  rw [Int.toNat_natCast]
  go_enter Tryd.func29, Tryd.ntmps29
  go_wp2
  go_loop [0, 1] (fun x y => ∃ (a : Int) (k : Nat), x = .int .i64 a ∧ y = .int .i64 k ∧ k ≤ 8 ∧ -1000000000 ≤ a ∧ a ≤ 1000000000 ∧ Hid (trimM a k = trimM m n ∧ trimS a k = trimS m n)) (fun _ y => (intOf y).toNat)
  case atStart => exact ⟨m, n, rfl, rfl, by omega, b1, b2, ⟨rfl, rfl⟩⟩
  case round =>
    obtain ⟨a, k, rfl, rfl, hk, a1, a2, hh⟩ := hrel
    have tm := tmod10 a
    match k, hk, hh with
    | 0, _, hh =>
      clear tm
      go_wp2
      refine bodyPost_ret (v := .agg #[.int .i64 a, .int .i64 0]) (by simp [results, Tryd.results29, go_sem]) rfl ⟨?_, ?_⟩
      · have := unhide hh
        rw [← this.1, ← this.2]; rfl
      · exact (Below.refl _ _).alloc (Nat.le_refl _) _
    | k + 1, hk, hh =>
      by_cases h10 : a % 10 = 0
      · have tm' : (a.tmod 10 == 0) = true := by rw [tm]; simp [h10]
        have td := tdiv10 a h10
        have H10 := hide h10
        clear tm h10
        go_wp2
        go_round
        case rel =>
          have e := unhide hh
          have h := unhide H10
          exact ⟨a / 10, k, rfl, by go_num, by omega, by omega, by omega, by rw [← e.1, ← e.2]; simp [Hid, trimM, trimS, h]⟩
        case measure => simp [intOf]
      · have tm' : (a.tmod 10 == 0) = false := by rw [tm]; simp [h10]
        have H10 := hide h10
        clear tm h10
        go_wp2
        refine bodyPost_ret (v := .agg #[.int .i64 a, .int .i64 ((k + 1 : Nat) : Int)]) (by simp [results, Tryd.results29, go_sem]) rfl ⟨?_, ?_⟩
        · have e := unhide hh
          have h := unhide H10
          rw [← e.1, ← e.2]; simp [trimM, trimS, h]
        · exact (Below.refl _ _).alloc (Nat.le_refl _) _

set_option maxHeartbeats 400000 in
theorem fit_arg (m s : Int) (w : World) (h : argB m s = true) :
    Calls Tryd.prog 15 #[.int .i64 m, .int .i64 s] w fun e w' => e = .returned (.tuple #[.agg #[.int .i64 0, .int .i64 0], .int .i64 1]) ∧ Below w.heap.size w w' := by
  unfold argB at h
  have h := of_decide_eq_true h
  by_cases c1 : m < -1000000000000000000
  · clear h
    go_enter Tryd.func15, Tryd.ntmps15
    go_wp2
    exact bodyPost_ret (v := .tuple #[.agg #[.int .i64 0, .int .i64 0], .int .i64 1]) (by simp [results, Tryd.results15, go_sem]) rfl ⟨rfl, (Below.refl _ _).alloc (Nat.le_refl _) _⟩
  · by_cases c2 : 1000000000000000000 < m
    · clear h
      go_enter Tryd.func15, Tryd.ntmps15
      go_wp2
      exact bodyPost_ret (v := .tuple #[.agg #[.int .i64 0, .int .i64 0], .int .i64 1]) (by simp [results, Tryd.results15, go_sem]) rfl ⟨rfl, (Below.refl _ _).alloc (Nat.le_refl _) _⟩
    · by_cases c3 : s < 0
      · clear h
        go_enter Tryd.func15, Tryd.ntmps15
        go_wp2
        exact bodyPost_ret (v := .tuple #[.agg #[.int .i64 0, .int .i64 0], .int .i64 1]) (by simp [results, Tryd.results15, go_sem]) rfl ⟨rfl, (Below.refl _ _).alloc (Nat.le_refl _) _⟩
      · have c4 : 8 < s := by omega
        clear h
        go_enter Tryd.func15, Tryd.ntmps15
        go_wp2
        exact bodyPost_ret (v := .tuple #[.agg #[.int .i64 0, .int .i64 0], .int .i64 1]) (by simp [results, Tryd.results15, go_sem]) rfl ⟨rfl, (Below.refl _ _).alloc (Nat.le_refl _) _⟩

set_option maxHeartbeats 400000 in
theorem fit_in (m s : Int) (w : World) (m1 : -1000000000000000000 ≤ m) (m2 : m ≤ 1000000000000000000) (s1 : 0 ≤ s) (s2 : s ≤ 8) :
    Calls Tryd.prog 15 #[.int .i64 m, .int .i64 s] w fun e w' => e = .returned (.tuple #[.agg #[.int .i64 (fitTM m s.toNat (min s.toNat 4 + 1)), .int .i64 (fitTS m s.toNat (min s.toNat 4 + 1) : Nat)], .int .i64 (fitTE m s.toNat (min s.toNat 4 + 1))]) ∧ Below w.heap.size w w' := by
  obtain ⟨n, rfl⟩ := Int.eq_ofNat_of_zero_le s1
  rw [Int.toNat_natCast]
  have d1 : decide (m < -1000000000000000000) = false := decide_eq_false (by omega)
  have d2 : decide (1000000000000000000 < m) = false := decide_eq_false (by omega)
  have d3 : decide ((n : Int) < 0) = false := decide_eq_false (by omega)
  have d4 : decide (8 < (n : Int)) = false := decide_eq_false (by omega)
  generalize hk0 : min n 4 + 1 = k0
  have hk1 : k0 ≤ 5 := by omega
  have hk2 : k0 ≤ n + 1 := by omega
  have HK := hide hk0
  clear hk0
  by_cases h4 : n ≤ 4
  all_goals
    go_enter Tryd.func15, Tryd.ntmps15
    go_wp2_with fail
    go_loop [6] (fun x => ∃ k : Nat, x = .int .i64 ((k : Int) - 1) ∧ k ≤ k0 ∧ Hid (fitTM m n k = fitTM m n k0 ∧ fitTS m n k = fitTS m n k0 ∧ fitTE m n k = fitTE m n k0)) (fun x => (intOf x + 1).toNat)
    case atStart => exact ⟨k0, by have := unhide HK; congr 1; omega, Nat.le_refl _, ⟨rfl, rfl, rfl⟩⟩
    case round =>
      obtain ⟨k, rfl, hk, hh⟩ := hrel
      match k, hk, hh with
      | 0, _, hh =>
        go_wp2
        have e := unhide hh
        rw [← e.1, ← e.2.1, ← e.2.2]
        exact bodyPost_ret (v := .tuple #[.agg #[.int .i64 0, .int .i64 0], .int .i64 3]) (by simp [results, Tryd.results15, go_sem]) rfl ⟨rfl, (Below.refl _ _).alloc (Nat.le_refl _) _⟩
      | k + 1, hk, hh =>
        have e0 : (((k + 1 : Nat) : Int) - 1) = (k : Int) := by omega
        rw [e0]
        have pb := p10_pos (n - k)
        have pb2 := p10_bd (n := n - k) (by omega)
        go_wp2_with fail
        refine (power_any _ _ (by omega) (by omega)).mono ?_
        rintro e w' ⟨rfl, rfl⟩
        rw [show ((n : Int) - k).toNat = n - k by omega]
        go_wp2_with fail
        refine (half_any _ _ _ pb (by omega) (by omega) (by omega)).mono ?_
        rintro e w' ⟨rfl, rfl⟩
        have u1 : fitTM m n (k + 1) = if okM (half m (p10 (n - k))) = true then trimM (half m (p10 (n - k))) k else fitTM m n k := rfl
        have u2 : fitTS m n (k + 1) = if okM (half m (p10 (n - k))) = true then trimS (half m (p10 (n - k))) k else fitTS m n k := rfl
        have u3 : fitTE m n (k + 1) = if okM (half m (p10 (n - k))) = true then 0 else fitTE m n k := rfl
        generalize half m (p10 (n - k)) = x at u1 u2 u3 ⊢
        have U1 := hide u1; have U2 := hide u2; have U3 := hide u3
        clear u1 u2 u3
        go_wp2_with fail
        refine (holds_any _ _).mono ?_
        rintro e w' ⟨rfl, rfl⟩
        by_cases hok : okM x = true
        · have hx := (okM_iff x).1 hok
          have HOK := hide hok
          rw [hok]
          clear hok
          go_wp2_with fail
          refine (trim_any _ _ _ (by omega) (by omega) hx.1 hx.2).mono ?_
          rintro e w1 ⟨rfl, hb⟩
          rw [Int.toNat_natCast]
          obtain ⟨hc, hf⟩ := bcell hb
          have hz : w.heap.size < w1.heap.size := by have := hb.size; simp at this; omega
          go_wp2
          have e1 := unhide hh
          rw [unhide U1, unhide U2, unhide U3, if_pos (unhide HOK), if_pos (unhide HOK), if_pos (unhide HOK)] at e1
          rw [← e1.1, ← e1.2.1, ← e1.2.2]
          refine bodyPost_ret (v := .tuple #[.agg #[.int .i64 (trimM x k), .int .i64 (trimS x k : Nat)], .int .i64 0]) (by simp [results, Tryd.results15, go_sem, hc]) rfl ⟨rfl, ?_⟩
          exact ((((Below.refl _ _).alloc (Nat.le_refl _) _).trans (hb.mono (by simp))).setCell (by simp) _).setCell (by simp) _
        · have hok' : okM x = false := by simpa using hok
          have HOK := hide hok
          rw [hok']
          clear hok hok'
          go_wp2
          go_round
          case rel =>
            have e1 := unhide hh
            rw [unhide U1, unhide U2, unhide U3, if_neg (unhide HOK), if_neg (unhide HOK), if_neg (unhide HOK)] at e1
            exact ⟨k, by go_num, by omega, e1⟩
          case measure => simp [intOf]

end Go.Proofs.YtlcckhlkmnnjdabDoor

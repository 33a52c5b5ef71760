/- The contract of the document's own Fit. -/
import Derived.Test.YtlcckhlkmnnjdabDoorRef
import Derived.Test.YtlcckhlkmnnjdabDoorRIs
namespace Go.Proofs.YtlcckhlkmnnjdabDoor
open Go.RowKit

set_option maxHeartbeats 400000 in
theorem rfit_arg (m s : Int) (w : World) (h : argB m s = true) :
    Calls Tryd.prog 17 #[.int .i64 m, .int .i64 s] w fun e w' => e = .returned (.tuple #[.agg #[.int .i64 0, .int .i64 0], .int .i64 1]) ∧ Below w.heap.size w w' := by
  unfold argB at h
  have h := of_decide_eq_true h
  by_cases c1 : m < -1000000000000000000
  · clear h
    go_enter Tryd.func17, Tryd.ntmps17
    go_wp2
    exact bodyPost_ret (v := .tuple #[.agg #[.int .i64 0, .int .i64 0], .int .i64 1]) (by simp [results, Tryd.results17, go_sem]) rfl ⟨rfl, (Below.refl _ _).alloc (Nat.le_refl _) _⟩
  · by_cases c2 : 1000000000000000000 < m
    · clear h
      go_enter Tryd.func17, Tryd.ntmps17
      go_wp2
      exact bodyPost_ret (v := .tuple #[.agg #[.int .i64 0, .int .i64 0], .int .i64 1]) (by simp [results, Tryd.results17, go_sem]) rfl ⟨rfl, (Below.refl _ _).alloc (Nat.le_refl _) _⟩
    · by_cases c3 : s < 0
      · clear h
        go_enter Tryd.func17, Tryd.ntmps17
        go_wp2
        exact bodyPost_ret (v := .tuple #[.agg #[.int .i64 0, .int .i64 0], .int .i64 1]) (by simp [results, Tryd.results17, go_sem]) rfl ⟨rfl, (Below.refl _ _).alloc (Nat.le_refl _) _⟩
      · have c4 : 8 < s := by omega
        clear h
        go_enter Tryd.func17, Tryd.ntmps17
        go_wp2
        exact bodyPost_ret (v := .tuple #[.agg #[.int .i64 0, .int .i64 0], .int .i64 1]) (by simp [results, Tryd.results17, go_sem]) rfl ⟨rfl, (Below.refl _ _).alloc (Nat.le_refl _) _⟩

set_option maxHeartbeats 800000 in
theorem rfit_in (m s : Int) (w : World) (m1 : -1000000000000000000 ≤ m) (m2 : m ≤ 1000000000000000000) (s1 : 0 ≤ s) (s2 : s ≤ 8) :
    Calls Tryd.prog 17 #[.int .i64 m, .int .i64 s] w fun e w' => e = .returned (.tuple #[.agg #[.int .i64 (fitTM m s.toNat (min s.toNat 4 + 1)), .int .i64 (fitTS m s.toNat (min s.toNat 4 + 1) : Nat)], .int .i64 (fitTE m s.toNat (min s.toNat 4 + 1))]) ∧ Below w.heap.size w w' := by
  obtain ⟨n, rfl⟩ := Int.eq_ofNat_of_zero_le s1
  rw [Int.toNat_natCast]
  have d1 : decide (m < -1000000000000000000) = false := decide_eq_false (by omega)
  have d2 : decide (1000000000000000000 < m) = false := decide_eq_false (by omega)
  have d3 : decide ((n : Int) < 0) = false := decide_eq_false (by omega)
  have d4 : decide (8 < (n : Int)) = false := decide_eq_false (by omega)
  generalize hk0 : min n 4 + 1 = k0
  have hk1 : k0 ≤ 5 := by omega
  have hk2 : k0 ≤ n + 1 := by omega
  have HK := hide hk0
  clear hk0
  by_cases h4 : n ≤ 4
  all_goals
    go_enter Tryd.func17, Tryd.ntmps17
    go_wp2_with fail
    go_loopw [6] (fun x wr => ∃ k : Nat, x = .int .i64 ((k : Int) - 1) ∧ k ≤ k0 ∧ Hid (fitTM m n k = fitTM m n k0 ∧ fitTS m n k = fitTS m n k0 ∧ fitTE m n k = fitTE m n k0) ∧ Below (w.alloc (Obj.cells #[.int .i64 0, .int .i64 0] 23)).heap.size (w.alloc (Obj.cells #[.int .i64 0, .int .i64 0] 23)) wr) (fun x _ => (intOf x + 1).toNat)
    case atStart => exact ⟨k0, by have := unhide HK; congr 1; omega, Nat.le_refl _, ⟨rfl, rfl, rfl⟩, Below.refl _ _⟩
    case round =>
      obtain ⟨k, rfl, hk, hh, b0⟩ := hrel
      match k, hk, hh with
      | 0, _, hh =>
        obtain ⟨c0, f0⟩ := bcell b0
        have z0 : w.heap.size < wr.heap.size := by have := b0.size; simp at this; omega
        go_wp2
        have e := unhide hh
        rw [← e.1, ← e.2.1, ← e.2.2]
        exact bodyPost_ret (v := .tuple #[.agg #[.int .i64 0, .int .i64 0], .int .i64 3]) (by simp [results, Tryd.results17, go_sem, c0]) rfl ⟨rfl, ((bstep (below1 w _) b0).setCell (by simp) _).setCell (by simp) _⟩
      | k + 1, hk, hh =>
        have e0 : (((k + 1 : Nat) : Int) - 1) = (k : Int) := by omega
        rw [e0]
        have pb := p10_pos (n - k)
        have pb2 := p10_bd (n := n - k) (by omega)
        go_wp2_with fail
        refine (rpower_any _ _ (by omega) (by omega)).mono ?_
        rintro e w' ⟨rfl, rfl⟩
        rw [show ((n : Int) - k).toNat = n - k by omega]
        go_wp2_with fail
        refine (rhalf_below _ _ _ pb (by omega) (by omega) (by omega)).mono ?_
        rintro e w1 ⟨rfl, k1⟩
        have b1 := bstep b0 k1
        clear b0 k1
        have u1 : fitTM m n (k + 1) = if okM (half m (p10 (n - k))) = true then trimM (half m (p10 (n - k))) k else fitTM m n k := rfl
        have u2 : fitTS m n (k + 1) = if okM (half m (p10 (n - k))) = true then trimS (half m (p10 (n - k))) k else fitTS m n k := rfl
        have u3 : fitTE m n (k + 1) = if okM (half m (p10 (n - k))) = true then 0 else fitTE m n k := rfl
        generalize half m (p10 (n - k)) = x at u1 u2 u3 ⊢
        have U1 := hide u1; have U2 := hide u2; have U3 := hide u3
        clear u1 u2 u3
        by_cases hx1 : -1000000000 ≤ x
        · by_cases hx2 : x ≤ 1000000000
          · have HOK := hide ((okM_iff x).2 ⟨hx1, hx2⟩)
            have e1 := unhide hh
            rw [unhide U1, unhide U2, unhide U3, if_pos (unhide HOK), if_pos (unhide HOK), if_pos (unhide HOK)] at e1
            have E1 := hide e1
            clear e1 U1 U2 U3 HOK hh
            obtain ⟨c1, f1⟩ := bcell b1
            have z1 : w.heap.size < w1.heap.size := by have := b1.size; simp at this; omega
            go_wp2
            go_loop [6, 7] (fun y v => ∃ (j : Nat) (a : Int), y = .int .i64 j ∧ v = .int .i64 a ∧ j ≤ 4 ∧ -1000000000 ≤ a ∧ a ≤ 1000000000 ∧ Hid (trimM a j = trimM x k ∧ trimS a j = trimS x k)) (fun y _ => (intOf y).toNat)
            case atStart => exact ⟨k, x, rfl, rfl, by omega, hx1, hx2, ⟨rfl, rfl⟩⟩
            case round =>
              obtain ⟨j, a, rfl, rfl, hj, a1, a2, hh2⟩ := hrel
              have tm := tmod10 a
              match j, hj, hh2 with
              | 0, _, hh2 =>
                clear tm
                go_wp2
                have e1 := unhide E1
                have e2 := unhide hh2
                rw [← e1.1, ← e1.2.1, ← e1.2.2, ← e2.1, ← e2.2]
                exact bodyPost_ret (v := .tuple #[.agg #[.int .i64 a, .int .i64 0], .int .i64 0]) (by simp [results, Tryd.results17, go_sem, c1]) rfl ⟨rfl, ((bstep (below1 w _) b1).setCell (by simp) _).setCell (by simp) _⟩
              | j + 1, hj, hh2 =>
                by_cases h10 : a % 10 = 0
                · have tm' : (a.tmod 10 == 0) = true := by rw [tm]; simp [h10]
                  have td := tdiv10 a h10
                  have H10 := hide h10
                  clear tm h10
                  go_wp2
                  go_round
                  case rel =>
                    have e := unhide hh2
                    have h := unhide H10
                    exact ⟨j, a / 10, by go_num, rfl, by omega, by omega, by omega, by rw [← e.1, ← e.2]; simp [Hid, trimM, trimS, h]⟩
                  case measure => simp [intOf]
                · have tm' : (a.tmod 10 == 0) = false := by rw [tm]; simp [h10]
                  have H10 := hide h10
                  clear tm h10
                  go_wp2
                  have e1 := unhide E1
                  have e2 := unhide hh2
                  have h := unhide H10
                  rw [← e1.1, ← e1.2.1, ← e1.2.2, ← e2.1, ← e2.2]
                  exact bodyPost_ret (v := .tuple #[.agg #[.int .i64 a, .int .i64 ((j + 1 : Nat) : Int)], .int .i64 0]) (by simp [results, Tryd.results17, go_sem, c1]) rfl ⟨by simp [trimM, trimS, h], ((bstep (below1 w _) b1).setCell (by simp) _).setCell (by simp) _⟩
          · have HOK := hide (mt (okM_iff x).1 (by omega))
            go_wp2
            go_roundw
            case rel =>
              have e1 := unhide hh
              rw [unhide U1, unhide U2, unhide U3, if_neg (unhide HOK), if_neg (unhide HOK), if_neg (unhide HOK)] at e1
              exact ⟨k, by go_num, by omega, e1, b1⟩
            case measure => simp [intOf]
        · have HOK := hide (mt (okM_iff x).1 (by omega))
          go_wp2
          go_roundw
          case rel =>
            have e1 := unhide hh
            rw [unhide U1, unhide U2, unhide U3, if_neg (unhide HOK), if_neg (unhide HOK), if_neg (unhide HOK)] at e1
            exact ⟨k, by go_num, by omega, e1, b1⟩
          case measure => simp [intOf]

theorem rfit_any (m s : Int) (w : World) :
    Calls Tryd.prog 17 #[.int .i64 m, .int .i64 s] w fun e w' => e = .returned (.tuple #[.agg #[.int .i64 (fitM m s), .int .i64 (fitS m s)], .int .i64 (fitE m s)]) ∧ Below w.heap.size w w' := by
  by_cases h : argB m s = true
  · have e1 : fitM m s = 0 := if_pos h
    have e2 : fitS m s = 0 := if_pos h
    have e3 : fitE m s = 1 := if_pos h
    rw [e1, e2, e3]
    exact rfit_arg m s w h
  · have e1 : fitM m s = _ := if_neg h
    have e2 : fitS m s = _ := if_neg h
    have e3 : fitE m s = _ := if_neg h
    rw [e1, e2, e3]
    unfold argB at h
    have h := mt (decide_eq_true (p := _)) h
    exact rfit_in m s w (by omega) (by omega) (by omega) (by omega)

end Go.Proofs.YtlcckhlkmnnjdabDoor

/- RPow TMod Ref RIs Ref2 RParse RParse2 PBoth: laid together. -/
import Derived.Test.YtdlfgnmcokdceabDoorGA
/- The contract of the document's own power. -/
namespace Go.Proofs.YtdlfgnmcokdceabDoor
open Go.RowKit

set_option maxHeartbeats 400000 in
theorem rpower_any (n : Int) (w : World) (h0 : 0 ≤ n) (h8 : n ≤ 8) :
    Calls Tryd.prog 82 #[.int .i64 n] w fun e w' => e = .returned (.int .i64 (p10 n.toNat)) ∧ w' = w := by
  obtain ⟨m, rfl⟩ := Int.eq_ofNat_of_zero_le h0
  rw [Int.toNat_natCast]
  go_enter Tryd.func82, Tryd.ntmps82
  go_wp2
  go_loop [3, 4] (fun p i => ∃ k : Nat, k ≤ m ∧ i = .int .i64 k ∧ p = .int .i64 (p10 k)) (fun _ i => m - (intOf i).toNat)
  case atStart => exact ⟨0, Nat.zero_le _, rfl, rfl⟩
  case round =>
    obtain ⟨k, hk, rfl, rfl⟩ := hrel
    have b1 := p10_pos k
    have b2 := p10_bd (n := k) (by omega)
    by_cases hlt : k < m
    · go_wp2
      go_round
      case rel => exact ⟨k + 1, by omega, by go_num, by rw [p10_succ]⟩
      case measure => simp [intOf]; omega
    · have e : k = m := by omega
      subst e
      go_wp2
      go_ret
      exact ⟨rfl, rfl⟩

end Go.Proofs.YtdlfgnmcokdceabDoor

/- Go's quotient and rest against the floor's; a number's last bit. -/
namespace Go.Proofs.YtdlfgnmcokdceabDoor
open Go.RowKit

theorem i64_and1 (n : Int) : bits .and .i64 n 1 = n % 2 := by
  have h1 : (BitVec.ofInt 64 1).toNat = 2 ^ 1 - 1 := by decide
  have key : (BitVec.ofInt 64 n &&& BitVec.ofInt 64 1).toNat = (n % ((2 ^ 64 : Nat) : Int)).toNat % 2 ^ 1 := by
    rw [BitVec.toNat_and, BitVec.toNat_ofInt, h1, Nat.and_two_pow_sub_one_eq_mod]
  show IntKind.i64.wrap ((BitVec.ofInt 64 n &&& BitVec.ofInt 64 1).toNat : Nat) = n % 2
  rw [key, IntKind.wrap_i64]
  omega

theorem tmod_facts (n d : Int) (hd : 1 ≤ d) : (n.tmod d < 0 → n.tdiv d - 1 = n / d ∧ n.tmod d + d = n % d) ∧ (¬ n.tmod d < 0 → n.tdiv d = n / d ∧ n.tmod d = n % d) := by
  have ⟨a, b⟩ := tdiv_floor n d hd
  have he := Int.mul_tdiv_add_tmod n d
  have h3 := Int.mul_ediv_add_emod n d
  constructor
  · intro h
    refine ⟨a h, ?_⟩
    rw [← a h, Int.mul_sub] at h3
    omega
  · intro h
    refine ⟨b h, ?_⟩
    rw [← b h] at h3
    omega

end Go.Proofs.YtdlfgnmcokdceabDoor

/- The contracts of the document's own small functions: power, half, Is, Fit. -/
namespace Go.Proofs.YtdlfgnmcokdceabDoor
open Go.RowKit

set_option maxHeartbeats 800000 in
theorem rhalf_any (n d : Int) (w : World) (hd : 1 ≤ d) (hd2 : d ≤ 2000000000000000000) (h1 : -2000000000000000000 ≤ n) (h2 : n ≤ 2000000000000000000) :
    Calls Tryd.prog 81 #[.int .i64 n, .int .i64 d] w fun e w' => e = .returned (.int .i64 (half n d)) ∧ ∃ k, w' = w.drewN k := by
  have q1 := div_abs n d 2000000000000000000 hd (by omega) h1 h2
  have r1 := Int.emod_nonneg n (b := d) (by omega)
  have r2 := Int.emod_lt_of_pos n (b := d) (by omega)
  have tb := tdiv_bd n d 2000000000000000000 hd (by omega) h1 h2
  have ⟨fa, fb⟩ := tmod_facts n d hd
  have t2 := i64_and1 (n / d)
  unfold half
  generalize n / d = q at *
  generalize n % d = r at *
  by_cases hneg : n.tmod d < 0
  · have ⟨e1, e2⟩ := fa hneg
    have tb2 : -2000000000000000000 ≤ n.tmod d := by omega
    clear fa fb
    by_cases c1 : d - r < r
    · rw [if_pos (Or.inl (show d < 2 * r by omega))]
      clear t2
      go_enter Tryd.func81, Tryd.ntmps81
      go_wp2_with fail
      go_quiet (fail)
      go_wp2
      go_ret
      exact ⟨rfl, ⟨_, rfl⟩⟩
    · by_cases c2 : r = d - r
      · by_cases c3 : q % 2 ≠ 0
        · rw [if_pos (Or.inr ⟨show 2 * r = d by omega, c3⟩)]
          have t3 : (bits .and .i64 q 1 == 1) = true := by rw [t2]; simp; omega
          have c4 : (r == d - r) = true := by simp [← c2]
          clear t2 c2 c3
          go_enter Tryd.func81, Tryd.ntmps81
          go_wp2_with fail
          go_quiet (fail)
          go_wp2
          go_ret
          exact ⟨rfl, ⟨_, rfl⟩⟩
        · rw [if_neg (by omega)]
          have t3 : (bits .and .i64 q 1 == 1) = false := by rw [t2]; simp; omega
          have c4 : (r == d - r) = true := by simp [← c2]
          clear t2 c2 c3
          go_enter Tryd.func81, Tryd.ntmps81
          go_wp2_with fail
          go_quiet (fail)
          go_wp2
          go_ret
          exact ⟨rfl, ⟨_, rfl⟩⟩
      · rw [if_neg (by omega)]
        have c4 : (r == d - r) = false := by simpa using c2
        clear t2
        go_enter Tryd.func81, Tryd.ntmps81
        go_wp2_with fail
        go_quiet (fail)
        go_wp2
        go_ret
        exact ⟨rfl, ⟨_, rfl⟩⟩
  · have ⟨e1, e2⟩ := fb hneg
    clear fa fb
    rw [e1] at tb
    rw [e2] at hneg
    by_cases c1 : d - r < r
    · rw [if_pos (Or.inl (show d < 2 * r by omega))]
      clear t2
      go_enter Tryd.func81, Tryd.ntmps81
      go_wp2_with fail
      go_quiet (fail)
      go_wp2
      go_ret
      exact ⟨rfl, ⟨_, rfl⟩⟩
    · by_cases c2 : r = d - r
      · by_cases c3 : q % 2 ≠ 0
        · rw [if_pos (Or.inr ⟨show 2 * r = d by omega, c3⟩)]
          have t3 : (bits .and .i64 q 1 == 1) = true := by rw [t2]; simp; omega
          have c4 : (r == d - r) = true := by simp [← c2]
          clear t2 c2 c3
          go_enter Tryd.func81, Tryd.ntmps81
          go_wp2_with fail
          go_quiet (fail)
          go_wp2
          go_ret
          exact ⟨rfl, ⟨_, rfl⟩⟩
        · rw [if_neg (by omega)]
          have t3 : (bits .and .i64 q 1 == 1) = false := by rw [t2]; simp; omega
          have c4 : (r == d - r) = true := by simp [← c2]
          clear t2 c2 c3
          go_enter Tryd.func81, Tryd.ntmps81
          go_wp2_with fail
          go_quiet (fail)
          go_wp2
          go_ret
          exact ⟨rfl, ⟨_, rfl⟩⟩
      · rw [if_neg (by omega)]
        have c4 : (r == d - r) = false := by simpa using c2
        clear t2
        go_enter Tryd.func81, Tryd.ntmps81
        go_wp2_with fail
        go_quiet (fail)
        go_wp2
        go_ret
        exact ⟨rfl, ⟨_, rfl⟩⟩

theorem rhalf_below (n d : Int) (w : World) (hd : 1 ≤ d) (hd2 : d ≤ 2000000000000000000) (h1 : -2000000000000000000 ≤ n) (h2 : n ≤ 2000000000000000000) :
    Calls Tryd.prog 81 #[.int .i64 n, .int .i64 d] w fun e w' => e = .returned (.int .i64 (half n d)) ∧ Below w.heap.size w w' :=
  (rhalf_any n d w hd hd2 h1 h2).mono fun _ _ h => ⟨h.1, by obtain ⟨k, rfl⟩ := h.2; exact below_drewN (Below.refl _ _) _⟩

end Go.Proofs.YtdlfgnmcokdceabDoor

/- The contract of the document's own Is. -/
namespace Go.Proofs.YtdlfgnmcokdceabDoor
open Go.RowKit

end Go.Proofs.YtdlfgnmcokdceabDoor

/- The contract of the document's own Fit. -/
namespace Go.Proofs.YtdlfgnmcokdceabDoor
open Go.RowKit

set_option maxHeartbeats 400000 in
theorem rfit_arg (m s : Int) (w : World) (h : argB m s = true) :
    Calls Tryd.prog 74 #[.int .i64 m, .int .i64 s] w fun e w' => e = .returned (.tuple #[.agg #[.int .i64 0, .int .i64 0], .int .i64 1]) ∧ Below w.heap.size w w' := by
  unfold argB at h
  have h := of_decide_eq_true h
  by_cases c1 : m < -1000000000000000000
  · clear h
    go_enter Tryd.func74, Tryd.ntmps74
    go_wp2
    exact bodyPost_ret (v := .tuple #[.agg #[.int .i64 0, .int .i64 0], .int .i64 1]) (by simp [results, Tryd.results74, go_sem]) rfl ⟨rfl, (Below.refl _ _).alloc (Nat.le_refl _) _⟩
  · by_cases c2 : 1000000000000000000 < m
    · clear h
      go_enter Tryd.func74, Tryd.ntmps74
      go_wp2
      exact bodyPost_ret (v := .tuple #[.agg #[.int .i64 0, .int .i64 0], .int .i64 1]) (by simp [results, Tryd.results74, go_sem]) rfl ⟨rfl, (Below.refl _ _).alloc (Nat.le_refl _) _⟩
    · by_cases c3 : s < 0
      · clear h
        go_enter Tryd.func74, Tryd.ntmps74
        go_wp2
        exact bodyPost_ret (v := .tuple #[.agg #[.int .i64 0, .int .i64 0], .int .i64 1]) (by simp [results, Tryd.results74, go_sem]) rfl ⟨rfl, (Below.refl _ _).alloc (Nat.le_refl _) _⟩
      · have c4 : 8 < s := by omega
        clear h
        go_enter Tryd.func74, Tryd.ntmps74
        go_wp2
        exact bodyPost_ret (v := .tuple #[.agg #[.int .i64 0, .int .i64 0], .int .i64 1]) (by simp [results, Tryd.results74, go_sem]) rfl ⟨rfl, (Below.refl _ _).alloc (Nat.le_refl _) _⟩

set_option maxHeartbeats 800000 in
theorem rfit_in (m s : Int) (w : World) (m1 : -1000000000000000000 ≤ m) (m2 : m ≤ 1000000000000000000) (s1 : 0 ≤ s) (s2 : s ≤ 8) :
    Calls Tryd.prog 74 #[.int .i64 m, .int .i64 s] w fun e w' => e = .returned (.tuple #[.agg #[.int .i64 (fitTM m s.toNat (min s.toNat 4 + 1)), .int .i64 (fitTS m s.toNat (min s.toNat 4 + 1) : Nat)], .int .i64 (fitTE m s.toNat (min s.toNat 4 + 1))]) ∧ Below w.heap.size w w' := by
  obtain ⟨n, rfl⟩ := Int.eq_ofNat_of_zero_le s1
  rw [Int.toNat_natCast]
  have d1 : decide (m < -1000000000000000000) = false := decide_eq_false (by omega)
  have d2 : decide (1000000000000000000 < m) = false := decide_eq_false (by omega)
  have d3 : decide ((n : Int) < 0) = false := decide_eq_false (by omega)
  have d4 : decide (8 < (n : Int)) = false := decide_eq_false (by omega)
  generalize hk0 : min n 4 + 1 = k0
  have hk1 : k0 ≤ 5 := by omega
  have hk2 : k0 ≤ n + 1 := by omega
  have HK := hide hk0
  clear hk0
  by_cases h4 : n ≤ 4
  all_goals
    go_enter Tryd.func74, Tryd.ntmps74
    go_wp2_with fail
    go_loopw [6] (fun x wr => ∃ k : Nat, x = .int .i64 ((k : Int) - 1) ∧ k ≤ k0 ∧ Hid (fitTM m n k = fitTM m n k0 ∧ fitTS m n k = fitTS m n k0 ∧ fitTE m n k = fitTE m n k0) ∧ Below (w.alloc (Obj.cells #[.int .i64 0, .int .i64 0] 25)).heap.size (w.alloc (Obj.cells #[.int .i64 0, .int .i64 0] 25)) wr) (fun x _ => (intOf x + 1).toNat)
    case atStart => exact ⟨k0, by have := unhide HK; congr 1; omega, Nat.le_refl _, ⟨rfl, rfl, rfl⟩, Below.refl _ _⟩
    case round =>
      obtain ⟨k, rfl, hk, hh, b0⟩ := hrel
      match k, hk, hh with
      | 0, _, hh =>
        obtain ⟨c0, f0⟩ := bcell b0
        have z0 : w.heap.size < wr.heap.size := by have := b0.size; simp at this; omega
        go_wp2
        have e := unhide hh
        rw [← e.1, ← e.2.1, ← e.2.2]
        exact bodyPost_ret (v := .tuple #[.agg #[.int .i64 0, .int .i64 0], .int .i64 3]) (by simp [results, Tryd.results74, go_sem, c0]) rfl ⟨rfl, ((bstep (below1 w _) b0).setCell (by simp) _).setCell (by simp) _⟩
      | k + 1, hk, hh =>
        have e0 : (((k + 1 : Nat) : Int) - 1) = (k : Int) := by omega
        rw [e0]
        have pb := p10_pos (n - k)
        have pb2 := p10_bd (n := n - k) (by omega)
        go_wp2_with fail
        refine (rpower_any _ _ (by omega) (by omega)).mono ?_
        rintro e w' ⟨rfl, rfl⟩
        rw [show ((n : Int) - k).toNat = n - k by omega]
        go_wp2_with fail
        refine (rhalf_below _ _ _ pb (by omega) (by omega) (by omega)).mono ?_
        rintro e w1 ⟨rfl, k1⟩
        have b1 := bstep b0 k1
        clear b0 k1
        have u1 : fitTM m n (k + 1) = if okM (half m (p10 (n - k))) = true then trimM (half m (p10 (n - k))) k else fitTM m n k := rfl
        have u2 : fitTS m n (k + 1) = if okM (half m (p10 (n - k))) = true then trimS (half m (p10 (n - k))) k else fitTS m n k := rfl
        have u3 : fitTE m n (k + 1) = if okM (half m (p10 (n - k))) = true then 0 else fitTE m n k := rfl
        generalize half m (p10 (n - k)) = x at u1 u2 u3 ⊢
        have U1 := hide u1; have U2 := hide u2; have U3 := hide u3
        clear u1 u2 u3
        by_cases hx1 : -1000000000 ≤ x
        · by_cases hx2 : x ≤ 1000000000
          · have HOK := hide ((okM_iff x).2 ⟨hx1, hx2⟩)
            have e1 := unhide hh
            rw [unhide U1, unhide U2, unhide U3, if_pos (unhide HOK), if_pos (unhide HOK), if_pos (unhide HOK)] at e1
            have E1 := hide e1
            clear e1 U1 U2 U3 HOK hh
            obtain ⟨c1, f1⟩ := bcell b1
            have z1 : w.heap.size < w1.heap.size := by have := b1.size; simp at this; omega
            go_wp2
            go_loop [6, 7] (fun y v => ∃ (j : Nat) (a : Int), y = .int .i64 j ∧ v = .int .i64 a ∧ j ≤ 4 ∧ -1000000000 ≤ a ∧ a ≤ 1000000000 ∧ Hid (trimM a j = trimM x k ∧ trimS a j = trimS x k)) (fun y _ => (intOf y).toNat)
            case atStart => exact ⟨k, x, rfl, rfl, by omega, hx1, hx2, ⟨rfl, rfl⟩⟩
            case round =>
              obtain ⟨j, a, rfl, rfl, hj, a1, a2, hh2⟩ := hrel
              have tm := tmod10 a
              match j, hj, hh2 with
              | 0, _, hh2 =>
                clear tm
                go_wp2
                have e1 := unhide E1
                have e2 := unhide hh2
                rw [← e1.1, ← e1.2.1, ← e1.2.2, ← e2.1, ← e2.2]
                exact bodyPost_ret (v := .tuple #[.agg #[.int .i64 a, .int .i64 0], .int .i64 0]) (by simp [results, Tryd.results74, go_sem, c1]) rfl ⟨rfl, ((bstep (below1 w _) b1).setCell (by simp) _).setCell (by simp) _⟩
              | j + 1, hj, hh2 =>
                by_cases h10 : a % 10 = 0
                · have tm' : (a.tmod 10 == 0) = true := by rw [tm]; simp [h10]
                  have td := tdiv10 a h10
                  have H10 := hide h10
                  clear tm h10
                  go_wp2
                  go_round
                  case rel =>
                    have e := unhide hh2
                    have h := unhide H10
                    exact ⟨j, a / 10, by go_num, rfl, by omega, by omega, by omega, by rw [← e.1, ← e.2]; simp [Hid, trimM, trimS, h]⟩
                  case measure => simp [intOf]
                · have tm' : (a.tmod 10 == 0) = false := by rw [tm]; simp [h10]
                  have H10 := hide h10
                  clear tm h10
                  go_wp2
                  have e1 := unhide E1
                  have e2 := unhide hh2
                  have h := unhide H10
                  rw [← e1.1, ← e1.2.1, ← e1.2.2, ← e2.1, ← e2.2]
                  exact bodyPost_ret (v := .tuple #[.agg #[.int .i64 a, .int .i64 ((j + 1 : Nat) : Int)], .int .i64 0]) (by simp [results, Tryd.results74, go_sem, c1]) rfl ⟨by simp [trimM, trimS, h], ((bstep (below1 w _) b1).setCell (by simp) _).setCell (by simp) _⟩
          · have HOK := hide (mt (okM_iff x).1 (by omega))
            go_wp2
            go_roundw
            case rel =>
              have e1 := unhide hh
              rw [unhide U1, unhide U2, unhide U3, if_neg (unhide HOK), if_neg (unhide HOK), if_neg (unhide HOK)] at e1
              exact ⟨k, by go_num, by omega, e1, b1⟩
            case measure => simp [intOf]
        · have HOK := hide (mt (okM_iff x).1 (by omega))
          go_wp2
          go_roundw
          case rel =>
            have e1 := unhide hh
            rw [unhide U1, unhide U2, unhide U3, if_neg (unhide HOK), if_neg (unhide HOK), if_neg (unhide HOK)] at e1
            exact ⟨k, by go_num, by omega, e1, b1⟩
          case measure => simp [intOf]

theorem rfit_any (m s : Int) (w : World) :
    Calls Tryd.prog 74 #[.int .i64 m, .int .i64 s] w fun e w' => e = .returned (.tuple #[.agg #[.int .i64 (fitM m s), .int .i64 (fitS m s)], .int .i64 (fitE m s)]) ∧ Below w.heap.size w w' := by
  by_cases h : argB m s = true
  · have e1 : fitM m s = 0 := if_pos h
    have e2 : fitS m s = 0 := if_pos h
    have e3 : fitE m s = 1 := if_pos h
    rw [e1, e2, e3]
    exact rfit_arg m s w h
  · have e1 : fitM m s = _ := if_neg h
    have e2 : fitS m s = _ := if_neg h
    have e3 : fitE m s = _ := if_neg h
    rw [e1, e2, e3]
    unfold argB at h
    have h := mt (decide_eq_true (p := _)) h
    exact rfit_in m s w (by omega) (by omega) (by omega) (by omega)

end Go.Proofs.YtdlfgnmcokdceabDoor

/- The contract of the document's own Parse. -/
namespace Go.Proofs.YtdlfgnmcokdceabDoor
open Go.RowKit
set_option linter.unusedVariables false

theorem rdigs_run (l : List UInt8) (at0 : Nat) (w : World) (hl : l.length ≤ 1000) (ha : at0 ≤ l.length) :
    Calls Tryd.prog 73 #[.string ⟨l.toArray⟩, .int .i64 at0] w fun e w' => e = .returned (.int .i64 ((run isDig (l.drop at0) : Nat) : Int)) ∧ w' = w :=
  (rdigs_any l at0 w hl ha).mono fun e w' ⟨⟨k, h1, h2⟩, h3⟩ => ⟨by rw [h1, runs_eq h2], h3⟩

set_option maxHeartbeats 1600000 in
theorem rparse_nil (w : World) : Calls Tryd.prog 69 #[.string ⟨([] : List UInt8).toArray⟩] w fun e w' => e = .returned (.tuple #[.agg #[.int .i64 0, .int .i64 0], .int .i64 2]) ∧ Below w.heap.size w w' := by
  have D1 := hide (fun w => rdigs_run [] 0 w (by simp) (by simp))
  rw [show run isDig (([] : List UInt8).drop 0) = 0 from rfl] at D1
  go_enter Tryd.func69, Tryd.ntmps69
  go_wp2_with fail
  refine (unhide D1 _).mono ?_
  rintro e w1 ⟨rfl, rfl⟩
  go_wp2_with fail
  refine bodyPost_ret (v := .tuple #[.agg #[.int .i64 0, .int .i64 0], .int .i64 2]) (by simp [results, Tryd.results69, go_sem]) rfl ⟨rfl, ?_⟩
  exact below1 _ _

set_option maxHeartbeats 3200000 in
theorem rparse_bad_neg (l : List UInt8) (w : World) (hl : l.length ≤ 1000) (h0 : 0 < l.length) (h45 : l[0].toNat = 45) (hb : Bad (l.drop 1)) :
    Calls Tryd.prog 69 #[.string ⟨l.toArray⟩] w fun e w' => e = .returned (.tuple #[.agg #[.int .i64 0, .int .i64 0], .int .i64 2]) ∧ Below w.heap.size w w' := by
  have hg0 : (⟨l.toArray⟩ : ByteArray)[0]'(by simpa [ByteArray.size] using h0) = l[0] := rfl
  have e45 : ((l[0].toNat : Int) == 45) = true := by simp; omega
  have D1 := hide (fun w => rdigs_run l 1 w hl (by omega))
  have D2 := hide (fun (j : Nat) w (h : j ≤ l.length) => rdigs_run l j w hl h)
  have hle := run_le isDig (l.drop 1)
  rw [List.length_drop] at hle
  unfold Bad at hb
  simp only [List.getElem_drop, List.drop_drop, List.length_drop] at hb
  generalize run isDig (l.drop 1) = A at *
  clear h45
  by_cases hA : A = 0
  · subst hA
    go_enter Tryd.func69, Tryd.ntmps69
    go_wp2_with fail
    refine (unhide D1 _).mono ?_
    rintro e w1 ⟨rfl, rfl⟩
    go_wp2_with fail
    refine bodyPost_ret (v := .tuple #[.agg #[.int .i64 0, .int .i64 0], .int .i64 2]) (by simp [results, Tryd.results69, go_sem]) rfl ⟨rfl, ?_⟩
    exact below1 _ _
  have hA0 : (0 : Int) < (A : Int) := by omega
  have eA : ((A : Int) == 0) = false := by simp; omega
  rcases hb with hb | ⟨hlt, h46⟩ | ⟨hlt, -, h46, hb⟩
  · exact absurd hb hA
  · have hlt' : 1 + A < l.length := by omega
    have hgA : (⟨l.toArray⟩ : ByteArray)[1 + A]'(by simpa [ByteArray.size] using hlt') = l[1 + A] := rfl
    have e46 : ((l[1 + A].toNat : Int) == 46) = false := by
      have : l[1 + A].toNat ≠ 46 := by simpa using h46
      simp; omega
    have ene : ((1 : Int) + A != (l.length : Int)) = true := by simp; omega
    clear h46 hlt
    go_enter Tryd.func69, Tryd.ntmps69
    go_wp2_with fail
    refine (unhide D1 _).mono ?_
    rintro e w1 ⟨rfl, rfl⟩
    go_wp2_with fail
    refine bodyPost_ret (v := .tuple #[.agg #[.int .i64 0, .int .i64 0], .int .i64 2]) (by simp [results, Tryd.results69, go_sem]) rfl ⟨rfl, ?_⟩
    exact below1 _ _
  · have hlt' : 1 + A < l.length := by omega
    have hgA : (⟨l.toArray⟩ : ByteArray)[1 + A]'(by simpa [ByteArray.size] using hlt') = l[1 + A] := rfl
    have e46 : ((l[1 + A].toNat : Int) == 46) = true := by
      have : l[1 + A].toNat = 46 := by simpa using h46
      simp; omega
    have D2' := hide (fun w => unhide D2 (1 + A + 1) w (by omega))
    rw [show ((1 + A + 1 : Nat) : Int) = (1 : Int) + A + 1 by omega] at D2'
    have hle2 := run_le isDig (l.drop (1 + A + 1))
    rw [List.length_drop] at hle2
    have hb' : run isDig (l.drop (1 + A + 1)) = 0 ∨ 1 + A + 1 + run isDig (l.drop (1 + A + 1)) < l.length := by
      rcases hb with hb | hb
      · exact Or.inl (by simpa [Nat.add_assoc] using hb)
      · refine Or.inr ?_
        have e : 1 + (A + 1) = 1 + A + 1 := by omega
        rw [e] at hb
        omega
    clear D2 hb h46 hlt
    have D2 := D2'
    clear D2'
    generalize run isDig (l.drop (1 + A + 1)) = B at *
    by_cases hend : 1 + A + 1 + B = l.length
    · have hB : B = 0 := by omega
      subst hB
      have ene : ((1 : Int) + A + 1 != (l.length : Int)) = false := by simp; omega
      clear hb'
      go_enter Tryd.func69, Tryd.ntmps69
      go_wp2_with fail
      refine (unhide D1 _).mono ?_
      rintro e w1 ⟨rfl, rfl⟩
      go_wp2_with fail
      refine (unhide D2 _).mono ?_
      rintro e w1 ⟨rfl, rfl⟩
      go_wp2_with fail
      refine bodyPost_ret (v := .tuple #[.agg #[.int .i64 0, .int .i64 0], .int .i64 2]) (by simp [results, Tryd.results69, go_sem]) rfl ⟨rfl, ?_⟩
      exact below1 _ _
    · have ene : ((1 : Int) + A + 1 + B != (l.length : Int)) = true := by simp; omega
      clear hb'
      go_enter Tryd.func69, Tryd.ntmps69
      go_wp2_with fail
      refine (unhide D1 _).mono ?_
      rintro e w1 ⟨rfl, rfl⟩
      go_wp2_with fail
      refine (unhide D2 _).mono ?_
      rintro e w1 ⟨rfl, rfl⟩
      go_wp2_with fail
      refine bodyPost_ret (v := .tuple #[.agg #[.int .i64 0, .int .i64 0], .int .i64 2]) (by simp [results, Tryd.results69, go_sem]) rfl ⟨rfl, ?_⟩
      exact below1 _ _

set_option maxHeartbeats 3200000 in
theorem rparse_bad_pos (l : List UInt8) (w : World) (hl : l.length ≤ 1000) (h0 : 0 < l.length) (h45 : l[0].toNat ≠ 45) (hb : Bad (l.drop 0)) :
    Calls Tryd.prog 69 #[.string ⟨l.toArray⟩] w fun e w' => e = .returned (.tuple #[.agg #[.int .i64 0, .int .i64 0], .int .i64 2]) ∧ Below w.heap.size w w' := by
  have hg0 : (⟨l.toArray⟩ : ByteArray)[0]'(by simpa [ByteArray.size] using h0) = l[0] := rfl
  have e45 : ((l[0].toNat : Int) == 45) = false := by simp; omega
  have D1 := hide (fun w => rdigs_run l 0 w hl (by omega))
  have D2 := hide (fun (j : Nat) w (h : j ≤ l.length) => rdigs_run l j w hl h)
  have hle := run_le isDig (l.drop 0)
  rw [List.length_drop] at hle
  unfold Bad at hb
  simp only [List.getElem_drop, List.drop_drop, List.length_drop] at hb
  generalize run isDig (l.drop 0) = A at *
  clear h45
  by_cases hA : A = 0
  · subst hA
    go_enter Tryd.func69, Tryd.ntmps69
    go_wp2_with fail
    refine (unhide D1 _).mono ?_
    rintro e w1 ⟨rfl, rfl⟩
    go_wp2_with fail
    refine bodyPost_ret (v := .tuple #[.agg #[.int .i64 0, .int .i64 0], .int .i64 2]) (by simp [results, Tryd.results69, go_sem]) rfl ⟨rfl, ?_⟩
    exact below1 _ _
  have hA0 : (0 : Int) < (A : Int) := by omega
  have eA : ((A : Int) == 0) = false := by simp; omega
  rcases hb with hb | ⟨hlt, h46⟩ | ⟨hlt, -, h46, hb⟩
  · exact absurd hb hA
  · have hlt' : A < l.length := by omega
    have hgA : (⟨l.toArray⟩ : ByteArray)[A]'(by simpa [ByteArray.size] using hlt') = l[A] := rfl
    have e46 : ((l[A].toNat : Int) == 46) = false := by
      have : l[A].toNat ≠ 46 := by simpa using h46
      simp; omega
    have ene : ((A : Int) != (l.length : Int)) = true := by simp; omega
    clear h46 hlt
    go_enter Tryd.func69, Tryd.ntmps69
    go_wp2_with fail
    refine (unhide D1 _).mono ?_
    rintro e w1 ⟨rfl, rfl⟩
    go_wp2_with fail
    refine bodyPost_ret (v := .tuple #[.agg #[.int .i64 0, .int .i64 0], .int .i64 2]) (by simp [results, Tryd.results69, go_sem]) rfl ⟨rfl, ?_⟩
    exact below1 _ _
  · have hlt' : A < l.length := by omega
    have hgA : (⟨l.toArray⟩ : ByteArray)[A]'(by simpa [ByteArray.size] using hlt') = l[A] := rfl
    have e46 : ((l[A].toNat : Int) == 46) = true := by
      have : l[A].toNat = 46 := by simpa using h46
      simp; omega
    have D2' := hide (fun w => unhide D2 (A + 1) w (by omega))
    rw [show ((A + 1 : Nat) : Int) = (A : Int) + 1 by omega] at D2'
    have hle2 := run_le isDig (l.drop (A + 1))
    rw [List.length_drop] at hle2
    have hb' : run isDig (l.drop (A + 1)) = 0 ∨ A + 1 + run isDig (l.drop (A + 1)) < l.length := by
      rcases hb with hb | hb
      · exact Or.inl (by simpa [Nat.add_assoc] using hb)
      · refine Or.inr ?_
        have e : 0 + (A + 1) = A + 1 := by omega
        rw [e] at hb
        omega
    clear D2 hb h46 hlt
    have D2 := D2'
    clear D2'
    generalize run isDig (l.drop (A + 1)) = B at *
    by_cases hend : A + 1 + B = l.length
    · have hB : B = 0 := by omega
      subst hB
      have ene : ((A : Int) + 1 != (l.length : Int)) = false := by simp; omega
      clear hb'
      go_enter Tryd.func69, Tryd.ntmps69
      go_wp2_with fail
      refine (unhide D1 _).mono ?_
      rintro e w1 ⟨rfl, rfl⟩
      go_wp2_with fail
      refine (unhide D2 _).mono ?_
      rintro e w1 ⟨rfl, rfl⟩
      go_wp2_with fail
      refine bodyPost_ret (v := .tuple #[.agg #[.int .i64 0, .int .i64 0], .int .i64 2]) (by simp [results, Tryd.results69, go_sem]) rfl ⟨rfl, ?_⟩
      exact below1 _ _
    · have ene : ((A : Int) + 1 + B != (l.length : Int)) = true := by simp; omega
      clear hb'
      go_enter Tryd.func69, Tryd.ntmps69
      go_wp2_with fail
      refine (unhide D1 _).mono ?_
      rintro e w1 ⟨rfl, rfl⟩
      go_wp2_with fail
      refine (unhide D2 _).mono ?_
      rintro e w1 ⟨rfl, rfl⟩
      go_wp2_with fail
      refine bodyPost_ret (v := .tuple #[.agg #[.int .i64 0, .int .i64 0], .int .i64 2]) (by simp [results, Tryd.results69, go_sem]) rfl ⟨rfl, ?_⟩
      exact below1 _ _

end Go.Proofs.YtdlfgnmcokdceabDoor

/- The contract of the document's own Parse: what is a decimal's text. -/
namespace Go.Proofs.YtdlfgnmcokdceabDoor
open Go.RowKit
set_option linter.unusedVariables false

theorem foldl_num (b : List UInt8) : ∀ x : Int, b.foldl (fun n c => n * 10 + ((c.toNat : Int) - 48)) x = x * p10 b.length + num b := by
  induction b with
  | nil => intro x; simp [num, p10]
  | cons c b ih =>
    intro x
    rw [List.foldl_cons, ih, List.length_cons, p10_succ]
    have e : num (c :: b) = ((c.toNat : Int) - 48) * p10 b.length + num b := by
      unfold num
      rw [List.foldl_cons, ih]
      simp
      rfl
    rw [e, Int.add_mul, Int.mul_assoc, Int.mul_comm 10 (p10 b.length), Int.add_assoc]
theorem num_app (a b : List UInt8) : num (a ++ b) = num a * p10 b.length + num b := by
  unfold num
  rw [List.foldl_append, foldl_num]
  rfl
def nd (c : UInt8) : Bool := !decide (c.toNat = 46)
def numK (r : List UInt8) (k : Nat) : Int := num ((r.take k).filter nd)
theorem dig_nd {c : UInt8} (h : isDig c = true) : nd c = true := by
  have := isDig_bd h
  unfold nd
  simp
  omega
theorem filter_dig {a : List UInt8} (h : a.all isDig = true) : a.filter nd = a := by
  rw [List.filter_eq_self]
  intro c hc
  exact dig_nd (List.all_eq_true.1 h c hc)
theorem numK_dot (r : List UInt8) (k : Nat) (h : k < r.length) (hc : r[k].toNat = 46) : numK r (k + 1) = numK r k := by
  unfold numK
  rw [List.take_succ_eq_append_getElem h, List.filter_append]
  have : nd r[k] = false := by unfold nd; simp [hc]
  simp [this]
theorem numK_dig (r : List UInt8) (k : Nat) (h : k < r.length) (hc : r[k].toNat ≠ 46) : numK r (k + 1) = numK r k * 10 + ((r[k].toNat : Int) - 48) := by
  unfold numK
  rw [List.take_succ_eq_append_getElem h, List.filter_append]
  have : nd r[k] = true := by unfold nd; simp [hc]
  rw [show [r[k]].filter nd = [r[k]] by simp [this], num_snoc]
theorem numK_bd (r : List UInt8) (hd : (r.filter nd).all isDig = true) (hl : (r.filter nd).length ≤ 18) (k : Nat) : 0 ≤ numK r k ∧ numK r k ≤ 1000000000000000000 := by
  have hs : ((r.take k).filter nd).Sublist (r.filter nd) := (List.take_sublist k r).filter nd
  have h1 : ((r.take k).filter nd).all isDig = true := by
    rw [List.all_eq_true]
    intro c hc
    exact List.all_eq_true.1 hd c (hs.subset hc)
  have h2 := num_bd _ h1 _ (Nat.le_refl _)
  rw [List.take_length] at h2
  have h3 := p10_18 (k := ((r.take k).filter nd).length) (by have := hs.length_le; omega)
  unfold numK
  omega
theorem numK_all (r : List UInt8) : numK r r.length = num (r.filter nd) := by unfold numK; rw [List.take_length]
theorem nd_dig (r : List UInt8) (hd : (r.filter nd).all isDig = true) (k : Nat) (h : k < r.length) (hc : r[k].toNat ≠ 46) : 48 ≤ (r[k].toNat : Int) ∧ (r[k].toNat : Int) ≤ 57 := by
  refine isDig_bd (List.all_eq_true.1 hd _ (List.mem_filter.2 ⟨List.getElem_mem h, ?_⟩))
  unfold nd
  simp [hc]

set_option maxHeartbeats 3200000 in
theorem rparse_over_negw (l : List UInt8) (w : World) (hl : l.length ≤ 1000) (h0 : 0 < l.length) (h45 : l[0].toNat = 45) (ha : (l.drop 1).all isDig = true) (la : 1 ≤ (l.drop 1).length) (ho : 18 < (l.drop 1).length) :
    Calls Tryd.prog 69 #[.string ⟨l.toArray⟩] w fun e w' => e = .returned (.tuple #[.agg #[.int .i64 0, .int .i64 0], .int .i64 3]) ∧ Below w.heap.size w w' := by
  have hg0 : (⟨l.toArray⟩ : ByteArray)[0]'(by simpa [ByteArray.size] using h0) = l[0] := rfl
  have e45 : ((l[0].toNat : Int) == 45) = true := by simp; omega
  have D1 := hide (fun w => rdigs_run l 1 w hl (by omega))
  rw [irun_self ha] at D1
  have hlen := List.length_drop (i := 1) (l := l)
  obtain ⟨A, hAe⟩ : ∃ A, (l.drop 1).length = A := ⟨_, rfl⟩
  rw [hAe] at D1 hlen ho la
  clear hAe ha
  have eA : ((A : Int) == 0) = false := by simp; omega
  have ene : ((1 : Int) + A != (l.length : Int)) = false := by simp; omega
  have k1 : l.length ≤ 1 + A := by omega
  have k2 : 1 + A ≤ l.length := by omega
  clear h45 hlen
  go_enter Tryd.func69, Tryd.ntmps69
  go_wp2_with fail
  refine (unhide D1 _).mono ?_
  rintro e w1 ⟨rfl, rfl⟩
  go_wp2_with fail
  refine bodyPost_ret (v := .tuple #[.agg #[.int .i64 0, .int .i64 0], .int .i64 3]) (by simp [results, Tryd.results69, go_sem]) rfl ⟨rfl, ?_⟩
  exact below1 _ _

set_option maxHeartbeats 3200000 in
set_option maxRecDepth 10000 in
theorem rparse_ok_negw (l : List UInt8) (w : World) (hl : l.length ≤ 1000) (h0 : 0 < l.length) (h45 : l[0].toNat = 45) (ha : (l.drop 1).all isDig = true) (la : 1 ≤ (l.drop 1).length) (h18 : (l.drop 1).length ≤ 18) :
    Calls Tryd.prog 69 #[.string ⟨l.toArray⟩] w fun e w' => e = .returned (.tuple #[.agg #[.int .i64 (fitM (-(num (l.drop 1))) 0), .int .i64 (fitS (-(num (l.drop 1))) 0)], .int .i64 (fitE (-(num (l.drop 1))) 0)]) ∧ Below w.heap.size w w' := by
  have hg0 : (⟨l.toArray⟩ : ByteArray)[0]'(by simpa [ByteArray.size] using h0) = l[0] := rfl
  have e45 : ((l[0].toNat : Int) == 45) = true := by simp; omega
  have D1 := hide (fun w => rdigs_run l 1 w hl (by omega))
  rw [irun_self ha] at D1
  have hlen := List.length_drop (i := 1) (l := l)
  obtain ⟨F, hF0⟩ : ∃ F, (l.drop 1) = F := ⟨_, rfl⟩
  have hF : (l.drop 1).filter nd = F := by rw [filter_dig ha, hF0]
  have hFd : ((l.drop 1).filter nd).all isDig = true := by rw [filter_dig ha]; exact ha
  have hFl : ((l.drop 1).filter nd).length ≤ 18 := by rw [filter_dig ha]; exact h18
  have STD : Hid (∀ k (h1 : 1 ≤ k) (h : k < l.length), l[k].toNat = 46 → numK (l.drop 1) (k + 1 - 1) = numK (l.drop 1) (k - 1)) := by
    intro k h1 h hc
    have hh : (l.drop 1)[k - 1]'(by rw [List.length_drop]; omega) = l[k] := by rw [List.getElem_drop]; congr 1; omega
    rw [show k + 1 - 1 = (k - 1) + 1 by omega]
    exact numK_dot (l.drop 1) (k - 1) (by rw [List.length_drop]; omega) (by rw [hh]; exact hc)
  have STN : Hid (∀ k (h1 : 1 ≤ k) (h : k < l.length), l[k].toNat ≠ 46 → numK (l.drop 1) (k + 1 - 1) = numK (l.drop 1) (k - 1) * 10 + ((l[k].toNat : Int) - 48) ∧ 48 ≤ (l[k].toNat : Int) ∧ (l[k].toNat : Int) ≤ 57) := by
    intro k h1 h hc
    have hh : (l.drop 1)[k - 1]'(by rw [List.length_drop]; omega) = l[k] := by rw [List.getElem_drop]; congr 1; omega
    rw [show k + 1 - 1 = (k - 1) + 1 by omega]
    have q := numK_dig (l.drop 1) (k - 1) (by rw [List.length_drop]; omega) (by rw [hh]; exact hc)
    have q2 := nd_dig (l.drop 1) hFd (k - 1) (by rw [List.length_drop]; omega) (by rw [hh]; exact hc)
    rw [hh] at q q2
    exact ⟨q, q2⟩
  have BD := hide (numK_bd (l.drop 1) hFd hFl)
  have NE : Hid (numK (l.drop 1) (l.length - 1) = num F) := by
    have := numK_all (l.drop 1)
    rw [List.length_drop, hF] at this
    exact this
  rw [show num (l.drop 1) = num F by rw [hF0]]
  generalize hRR : (l.drop 1) = R at STD STN BD NE
  generalize num F = X0 at *
  obtain ⟨A, hAe⟩ : ∃ A, (l.drop 1).length = A := ⟨_, rfl⟩
  rw [hAe] at D1 hlen h18 la
  clear hAe ha hF hFd hFl hF0 hRR
  have eA : ((A : Int) == 0) = false := by simp; omega
  have ene : ((1 : Int) + A != (l.length : Int)) = false := by simp; omega
  have k1 : l.length ≤ 1 + A := by omega
  have k2 : 1 + A ≤ l.length := by omega
  clear h45 hlen
  go_enter Tryd.func69, Tryd.ntmps69
  go_wp2_with fail
  refine (unhide D1 _).mono ?_
  rintro e w1 ⟨rfl, rfl⟩
  go_wp2_with fail
  go_loop [8, 9] (fun m i => ∃ k : Nat, 1 ≤ k ∧ k ≤ l.length ∧ i = .int .i64 k ∧ m = .int .i64 (numK R (k - 1))) (fun _ i => l.length - (intOf i).toNat)
  case atStart => exact ⟨1, by omega, by omega, rfl, rfl⟩
  case round =>
    obtain ⟨k, hk1, hk2, rfl, rfl⟩ := hrel
    have bd := unhide BD (k - 1)
    by_cases hlt : k < l.length
    · have hgk : (⟨l.toArray⟩ : ByteArray)[k]'(by simpa [ByteArray.size] using hlt) = l[k] := rfl
      by_cases hc : l[k].toNat = 46
      · have en : ((l[k].toNat : Int) != 46) = false := by simp; omega
        have NS := hide (unhide STD k hk1 hlt hc)
        clear hc
        generalize numK R (k - 1) = n0 at *
        go_wp2_with fail
        go_round
        case rel => exact ⟨k + 1, by omega, by omega, by go_num, by rw [unhide NS]⟩
        case measure => simp [intOf]; omega
      · have en : ((l[k].toNat : Int) != 46) = true := by simp; omega
        obtain ⟨ns, d1, d2⟩ := unhide STN k hk1 hlt hc
        have bd2 := unhide BD (k + 1 - 1)
        rw [ns] at bd2
        have NS := hide ns
        clear hc ns
        generalize numK R (k - 1) = n0 at *
        go_wp2_with fail
        go_round
        case rel => exact ⟨k + 1, by omega, by omega, by go_num, by rw [unhide NS]⟩
        case measure => simp [intOf]; omega
    · have hkl : k = l.length := by omega
      subst hkl
      rw [unhide NE]
      rw [unhide NE] at bd
      go_wp2_with fail
      refine (rfit_any _ _ _).mono ?_
      rintro e w4 ⟨rfl, k4⟩
      obtain ⟨c4, f4⟩ := bcell k4
      have z4 : w.heap.size < w4.heap.size := by have := k4.size; simp at this; omega
      go_wp2_with fail
      refine bodyPost_ret (v := .tuple #[.agg #[.int .i64 (fitM _ _), .int .i64 (fitS _ _)], .int .i64 (fitE _ _)]) (by simp [results, Tryd.results69, go_sem, c4]) rfl ⟨rfl, ?_⟩
      exact ((bstep (below1 w _) k4).setCell (by simp) _).setCell (by simp) _

set_option maxHeartbeats 3200000 in
theorem rparse_over_negf (l : List UInt8) (w : World) (hl : l.length ≤ 1000) (h0 : 0 < l.length) (h45 : l[0].toNat = 45) (a b : List UInt8) (hr : (l.drop 1) = a ++ 46 :: b) (ha : a.all isDig = true) (hb : b.all isDig = true) (la : 1 ≤ a.length) (lb : 1 ≤ b.length) (ho : 18 < a.length + b.length ∨ 8 < b.length) :
    Calls Tryd.prog 69 #[.string ⟨l.toArray⟩] w fun e w' => e = .returned (.tuple #[.agg #[.int .i64 0, .int .i64 0], .int .i64 3]) ∧ Below w.heap.size w w' := by
  have hg0 : (⟨l.toArray⟩ : ByteArray)[0]'(by simpa [ByteArray.size] using h0) = l[0] := rfl
  have e45 : ((l[0].toNat : Int) == 45) = true := by simp; omega
  have D1 := hide (fun w => rdigs_run l 1 w hl (by omega))
  have hlen := List.length_drop (i := 1) (l := l)
  have eA : run isDig (l.drop 1) = a.length := by rw [hr, irun_app ha]; rfl
  rw [eA] at D1
  have hrl : (l.drop 1).length = a.length + 1 + b.length := by rw [hr]; simp; omega
  have hlt' : 1 + a.length < l.length := by omega
  have h46 : l[1 + a.length].toNat = 46 := by
    have h1 : (l.drop 1)[a.length]'(by omega) = 46 := by simp only [hr]; simp
    rw [List.getElem_drop] at h1
    have h2 : l[1 + a.length] = 46 := by simpa using h1
    rw [h2]; rfl
  have eB : run isDig (l.drop (1 + a.length + 1)) = b.length := by
    have h1 : l.drop (1 + a.length + 1) = (l.drop 1).drop (a.length + 1) := by rw [List.drop_drop]; congr 1; try omega
    rw [h1, hr, ← List.drop_drop, List.drop_left' rfl]
    exact irun_self hb
  have D2 := hide (fun w => rdigs_run l (1 + a.length + 1) w hl (by omega))
  rw [eB, show ((1 + a.length + 1 : Nat) : Int) = (1 : Int) + a.length + 1 by omega] at D2
  clear hr ha hb eA eB
  generalize a.length = A at *
  generalize b.length = B at *
  have hgA : (⟨l.toArray⟩ : ByteArray)[1 + A]'(by simpa [ByteArray.size] using hlt') = l[1 + A] := rfl
  have e46 : ((l[1 + A].toNat : Int) == 46) = true := by simp; omega
  have eA : ((A : Int) == 0) = false := by simp; omega
  have eB : ((B : Int) == 0) = false := by simp; omega
  have ene : ((1 : Int) + A + 1 + B != (l.length : Int)) = false := by simp; omega
  have k1 : l.length ≤ 1 + A + 1 + B := by omega
  have k2 : 1 + A + 1 + B ≤ l.length := by omega
  clear h45 h46 hlen hrl
  by_cases h18 : 18 < (A : Int) + B
  · clear ho
    go_enter Tryd.func69, Tryd.ntmps69
    go_wp2_with fail
    refine (unhide D1 _).mono ?_
    rintro e w1 ⟨rfl, rfl⟩
    go_wp2_with fail
    refine (unhide D2 _).mono ?_
    rintro e w1 ⟨rfl, rfl⟩
    go_wp2_with fail
    refine bodyPost_ret (v := .tuple #[.agg #[.int .i64 0, .int .i64 0], .int .i64 3]) (by simp [results, Tryd.results69, go_sem]) rfl ⟨rfl, ?_⟩
    exact below1 _ _
  · have h8 : 8 < (B : Int) := by omega
    clear ho
    go_enter Tryd.func69, Tryd.ntmps69
    go_wp2_with fail
    refine (unhide D1 _).mono ?_
    rintro e w1 ⟨rfl, rfl⟩
    go_wp2_with fail
    refine (unhide D2 _).mono ?_
    rintro e w1 ⟨rfl, rfl⟩
    go_wp2_with fail
    refine bodyPost_ret (v := .tuple #[.agg #[.int .i64 0, .int .i64 0], .int .i64 3]) (by simp [results, Tryd.results69, go_sem]) rfl ⟨rfl, ?_⟩
    exact below1 _ _

set_option maxHeartbeats 3200000 in
set_option maxRecDepth 10000 in
theorem rparse_ok_negf (l : List UInt8) (w : World) (hl : l.length ≤ 1000) (h0 : 0 < l.length) (h45 : l[0].toNat = 45) (a b : List UInt8) (hr : (l.drop 1) = a ++ 46 :: b) (ha : a.all isDig = true) (hb : b.all isDig = true) (la : 1 ≤ a.length) (lb : 1 ≤ b.length) (h18 : a.length + b.length ≤ 18) (h8 : b.length ≤ 8) :
    Calls Tryd.prog 69 #[.string ⟨l.toArray⟩] w fun e w' => e = .returned (.tuple #[.agg #[.int .i64 (fitM (-(num (a ++ b))) b.length), .int .i64 (fitS (-(num (a ++ b))) b.length)], .int .i64 (fitE (-(num (a ++ b))) b.length)]) ∧ Below w.heap.size w w' := by
  have hg0 : (⟨l.toArray⟩ : ByteArray)[0]'(by simpa [ByteArray.size] using h0) = l[0] := rfl
  have e45 : ((l[0].toNat : Int) == 45) = true := by simp; omega
  have D1 := hide (fun w => rdigs_run l 1 w hl (by omega))
  have hlen := List.length_drop (i := 1) (l := l)
  have eA : run isDig (l.drop 1) = a.length := by rw [hr, irun_app ha]; rfl
  rw [eA] at D1
  have hrl : (l.drop 1).length = a.length + 1 + b.length := by rw [hr]; simp; omega
  have hlt' : 1 + a.length < l.length := by omega
  have h46 : l[1 + a.length].toNat = 46 := by
    have h1 : (l.drop 1)[a.length]'(by omega) = 46 := by simp only [hr]; simp
    rw [List.getElem_drop] at h1
    have h2 : l[1 + a.length] = 46 := by simpa using h1
    rw [h2]; rfl
  have eB : run isDig (l.drop (1 + a.length + 1)) = b.length := by
    have h1 : l.drop (1 + a.length + 1) = (l.drop 1).drop (a.length + 1) := by rw [List.drop_drop]; congr 1; try omega
    rw [h1, hr, ← List.drop_drop, List.drop_left' rfl]
    exact irun_self hb
  have D2 := hide (fun w => rdigs_run l (1 + a.length + 1) w hl (by omega))
  rw [eB, show ((1 + a.length + 1 : Nat) : Int) = (1 : Int) + a.length + 1 by omega] at D2
  have hF0 : (l.drop 1).filter nd = a ++ b := by
    rw [hr, List.filter_append, filter_dig ha, List.filter_cons, filter_dig hb]
    rfl
  obtain ⟨F, hFF⟩ : ∃ F, a ++ b = F := ⟨_, rfl⟩
  have hF : (l.drop 1).filter nd = F := by rw [hF0, hFF]
  have hFd : ((l.drop 1).filter nd).all isDig = true := by rw [hF0, List.all_append, ha, hb]; rfl
  have hFl : ((l.drop 1).filter nd).length ≤ 18 := by rw [hF0, List.length_append]; exact h18
  have STD : Hid (∀ k (h1 : 1 ≤ k) (h : k < l.length), l[k].toNat = 46 → numK (l.drop 1) (k + 1 - 1) = numK (l.drop 1) (k - 1)) := by
    intro k h1 h hc
    have hh : (l.drop 1)[k - 1]'(by rw [List.length_drop]; omega) = l[k] := by rw [List.getElem_drop]; congr 1; omega
    rw [show k + 1 - 1 = (k - 1) + 1 by omega]
    exact numK_dot (l.drop 1) (k - 1) (by rw [List.length_drop]; omega) (by rw [hh]; exact hc)
  have STN : Hid (∀ k (h1 : 1 ≤ k) (h : k < l.length), l[k].toNat ≠ 46 → numK (l.drop 1) (k + 1 - 1) = numK (l.drop 1) (k - 1) * 10 + ((l[k].toNat : Int) - 48) ∧ 48 ≤ (l[k].toNat : Int) ∧ (l[k].toNat : Int) ≤ 57) := by
    intro k h1 h hc
    have hh : (l.drop 1)[k - 1]'(by rw [List.length_drop]; omega) = l[k] := by rw [List.getElem_drop]; congr 1; omega
    rw [show k + 1 - 1 = (k - 1) + 1 by omega]
    have q := numK_dig (l.drop 1) (k - 1) (by rw [List.length_drop]; omega) (by rw [hh]; exact hc)
    have q2 := nd_dig (l.drop 1) hFd (k - 1) (by rw [List.length_drop]; omega) (by rw [hh]; exact hc)
    rw [hh] at q q2
    exact ⟨q, q2⟩
  have BD := hide (numK_bd (l.drop 1) hFd hFl)
  have NE : Hid (numK (l.drop 1) (l.length - 1) = num F) := by
    have := numK_all (l.drop 1)
    rw [List.length_drop, hF] at this
    exact this
  rw [hFF]
  generalize hRR : (l.drop 1) = R at STD STN BD NE
  generalize num F = X0 at *
  clear hr ha hb eA eB hF hFd hFl hF0 hFF hRR
  generalize a.length = A at *
  generalize b.length = B at *
  have hgA : (⟨l.toArray⟩ : ByteArray)[1 + A]'(by simpa [ByteArray.size] using hlt') = l[1 + A] := rfl
  have e46 : ((l[1 + A].toNat : Int) == 46) = true := by simp; omega
  have eA : ((A : Int) == 0) = false := by simp; omega
  have eB : ((B : Int) == 0) = false := by simp; omega
  have ene : ((1 : Int) + A + 1 + B != (l.length : Int)) = false := by simp; omega
  have k1 : l.length ≤ 1 + A + 1 + B := by omega
  have k2 : 1 + A + 1 + B ≤ l.length := by omega
  clear h45 h46 hlen hrl
  go_enter Tryd.func69, Tryd.ntmps69
  go_wp2_with fail
  refine (unhide D1 _).mono ?_
  rintro e w1 ⟨rfl, rfl⟩
  go_wp2_with fail
  refine (unhide D2 _).mono ?_
  rintro e w1 ⟨rfl, rfl⟩
  go_wp2_with fail
  go_loop [8, 9] (fun m i => ∃ k : Nat, 1 ≤ k ∧ k ≤ l.length ∧ i = .int .i64 k ∧ m = .int .i64 (numK R (k - 1))) (fun _ i => l.length - (intOf i).toNat)
  case atStart => exact ⟨1, by omega, by omega, rfl, rfl⟩
  case round =>
    obtain ⟨k, hk1, hk2, rfl, rfl⟩ := hrel
    have bd := unhide BD (k - 1)
    by_cases hlt : k < l.length
    · have hgk : (⟨l.toArray⟩ : ByteArray)[k]'(by simpa [ByteArray.size] using hlt) = l[k] := rfl
      by_cases hc : l[k].toNat = 46
      · have en : ((l[k].toNat : Int) != 46) = false := by simp; omega
        have NS := hide (unhide STD k hk1 hlt hc)
        clear hc
        generalize numK R (k - 1) = n0 at *
        go_wp2_with fail
        go_round
        case rel => exact ⟨k + 1, by omega, by omega, by go_num, by rw [unhide NS]⟩
        case measure => simp [intOf]; omega
      · have en : ((l[k].toNat : Int) != 46) = true := by simp; omega
        obtain ⟨ns, d1, d2⟩ := unhide STN k hk1 hlt hc
        have bd2 := unhide BD (k + 1 - 1)
        rw [ns] at bd2
        have NS := hide ns
        clear hc ns
        generalize numK R (k - 1) = n0 at *
        go_wp2_with fail
        go_round
        case rel => exact ⟨k + 1, by omega, by omega, by go_num, by rw [unhide NS]⟩
        case measure => simp [intOf]; omega
    · have hkl : k = l.length := by omega
      subst hkl
      rw [unhide NE]
      rw [unhide NE] at bd
      go_wp2_with fail
      refine (rfit_any _ _ _).mono ?_
      rintro e w4 ⟨rfl, k4⟩
      obtain ⟨c4, f4⟩ := bcell k4
      have z4 : w.heap.size < w4.heap.size := by have := k4.size; simp at this; omega
      go_wp2_with fail
      refine bodyPost_ret (v := .tuple #[.agg #[.int .i64 (fitM _ _), .int .i64 (fitS _ _)], .int .i64 (fitE _ _)]) (by simp [results, Tryd.results69, go_sem, c4]) rfl ⟨rfl, ?_⟩
      exact ((bstep (below1 w _) k4).setCell (by simp) _).setCell (by simp) _

set_option maxHeartbeats 3200000 in
theorem rparse_over_posw (l : List UInt8) (w : World) (hl : l.length ≤ 1000) (h0 : 0 < l.length) (h45 : l[0].toNat ≠ 45) (ha : (l.drop 0).all isDig = true) (la : 1 ≤ (l.drop 0).length) (ho : 18 < (l.drop 0).length) :
    Calls Tryd.prog 69 #[.string ⟨l.toArray⟩] w fun e w' => e = .returned (.tuple #[.agg #[.int .i64 0, .int .i64 0], .int .i64 3]) ∧ Below w.heap.size w w' := by
  have hg0 : (⟨l.toArray⟩ : ByteArray)[0]'(by simpa [ByteArray.size] using h0) = l[0] := rfl
  have e45 : ((l[0].toNat : Int) == 45) = false := by simp; omega
  have D1 := hide (fun w => rdigs_run l 0 w hl (by omega))
  rw [irun_self ha] at D1
  have hlen := List.length_drop (i := 0) (l := l)
  obtain ⟨A, hAe⟩ : ∃ A, (l.drop 0).length = A := ⟨_, rfl⟩
  rw [hAe] at D1 hlen ho la
  clear hAe ha
  have eA : ((A : Int) == 0) = false := by simp; omega
  have ene : ((A : Int) != (l.length : Int)) = false := by simp; omega
  have k1 : l.length ≤ A := by omega
  have k2 : A ≤ l.length := by omega
  clear h45 hlen
  go_enter Tryd.func69, Tryd.ntmps69
  go_wp2_with fail
  refine (unhide D1 _).mono ?_
  rintro e w1 ⟨rfl, rfl⟩
  go_wp2_with fail
  refine bodyPost_ret (v := .tuple #[.agg #[.int .i64 0, .int .i64 0], .int .i64 3]) (by simp [results, Tryd.results69, go_sem]) rfl ⟨rfl, ?_⟩
  exact below1 _ _

set_option maxHeartbeats 3200000 in
set_option maxRecDepth 10000 in
theorem rparse_ok_posw (l : List UInt8) (w : World) (hl : l.length ≤ 1000) (h0 : 0 < l.length) (h45 : l[0].toNat ≠ 45) (ha : (l.drop 0).all isDig = true) (la : 1 ≤ (l.drop 0).length) (h18 : (l.drop 0).length ≤ 18) :
    Calls Tryd.prog 69 #[.string ⟨l.toArray⟩] w fun e w' => e = .returned (.tuple #[.agg #[.int .i64 (fitM (num (l.drop 0)) 0), .int .i64 (fitS (num (l.drop 0)) 0)], .int .i64 (fitE (num (l.drop 0)) 0)]) ∧ Below w.heap.size w w' := by
  have hg0 : (⟨l.toArray⟩ : ByteArray)[0]'(by simpa [ByteArray.size] using h0) = l[0] := rfl
  have e45 : ((l[0].toNat : Int) == 45) = false := by simp; omega
  have D1 := hide (fun w => rdigs_run l 0 w hl (by omega))
  rw [irun_self ha] at D1
  have hlen := List.length_drop (i := 0) (l := l)
  obtain ⟨F, hF0⟩ : ∃ F, (l.drop 0) = F := ⟨_, rfl⟩
  have hF : (l.drop 0).filter nd = F := by rw [filter_dig ha, hF0]
  have hFd : ((l.drop 0).filter nd).all isDig = true := by rw [filter_dig ha]; exact ha
  have hFl : ((l.drop 0).filter nd).length ≤ 18 := by rw [filter_dig ha]; exact h18
  have STD : Hid (∀ k (h1 : 0 ≤ k) (h : k < l.length), l[k].toNat = 46 → numK (l.drop 0) (k + 1 - 0) = numK (l.drop 0) (k - 0)) := by
    intro k h1 h hc
    have hh : (l.drop 0)[k - 0]'(by rw [List.length_drop]; omega) = l[k] := by rw [List.getElem_drop]; congr 1; omega
    rw [show k + 1 - 0 = (k - 0) + 1 by omega]
    exact numK_dot (l.drop 0) (k - 0) (by rw [List.length_drop]; omega) (by rw [hh]; exact hc)
  have STN : Hid (∀ k (h1 : 0 ≤ k) (h : k < l.length), l[k].toNat ≠ 46 → numK (l.drop 0) (k + 1 - 0) = numK (l.drop 0) (k - 0) * 10 + ((l[k].toNat : Int) - 48) ∧ 48 ≤ (l[k].toNat : Int) ∧ (l[k].toNat : Int) ≤ 57) := by
    intro k h1 h hc
    have hh : (l.drop 0)[k - 0]'(by rw [List.length_drop]; omega) = l[k] := by rw [List.getElem_drop]; congr 1; omega
    rw [show k + 1 - 0 = (k - 0) + 1 by omega]
    have q := numK_dig (l.drop 0) (k - 0) (by rw [List.length_drop]; omega) (by rw [hh]; exact hc)
    have q2 := nd_dig (l.drop 0) hFd (k - 0) (by rw [List.length_drop]; omega) (by rw [hh]; exact hc)
    rw [hh] at q q2
    exact ⟨q, q2⟩
  have BD := hide (numK_bd (l.drop 0) hFd hFl)
  have NE : Hid (numK (l.drop 0) (l.length - 0) = num F) := by
    have := numK_all (l.drop 0)
    rw [List.length_drop, hF] at this
    exact this
  rw [show num (l.drop 0) = num F by rw [hF0]]
  generalize hRR : (l.drop 0) = R at STD STN BD NE
  generalize num F = X0 at *
  obtain ⟨A, hAe⟩ : ∃ A, (l.drop 0).length = A := ⟨_, rfl⟩
  rw [hAe] at D1 hlen h18 la
  clear hAe ha hF hFd hFl hF0 hRR
  have eA : ((A : Int) == 0) = false := by simp; omega
  have ene : ((A : Int) != (l.length : Int)) = false := by simp; omega
  have k1 : l.length ≤ A := by omega
  have k2 : A ≤ l.length := by omega
  clear h45 hlen
  go_enter Tryd.func69, Tryd.ntmps69
  go_wp2_with fail
  refine (unhide D1 _).mono ?_
  rintro e w1 ⟨rfl, rfl⟩
  go_wp2_with fail
  go_loop [8, 9] (fun m i => ∃ k : Nat, 0 ≤ k ∧ k ≤ l.length ∧ i = .int .i64 k ∧ m = .int .i64 (numK R (k - 0))) (fun _ i => l.length - (intOf i).toNat)
  case atStart => exact ⟨0, by omega, by omega, rfl, rfl⟩
  case round =>
    obtain ⟨k, hk1, hk2, rfl, rfl⟩ := hrel
    have bd := unhide BD (k - 0)
    by_cases hlt : k < l.length
    · have hgk : (⟨l.toArray⟩ : ByteArray)[k]'(by simpa [ByteArray.size] using hlt) = l[k] := rfl
      by_cases hc : l[k].toNat = 46
      · have en : ((l[k].toNat : Int) != 46) = false := by simp; omega
        have NS := hide (unhide STD k hk1 hlt hc)
        clear hc
        generalize numK R (k - 0) = n0 at *
        go_wp2_with fail
        go_round
        case rel => exact ⟨k + 1, by omega, by omega, by go_num, by rw [unhide NS]⟩
        case measure => simp [intOf]; omega
      · have en : ((l[k].toNat : Int) != 46) = true := by simp; omega
        obtain ⟨ns, d1, d2⟩ := unhide STN k hk1 hlt hc
        have bd2 := unhide BD (k + 1 - 0)
        rw [ns] at bd2
        have NS := hide ns
        clear hc ns
        generalize numK R (k - 0) = n0 at *
        go_wp2_with fail
        go_round
        case rel => exact ⟨k + 1, by omega, by omega, by go_num, by rw [unhide NS]⟩
        case measure => simp [intOf]; omega
    · have hkl : k = l.length := by omega
      subst hkl
      rw [unhide NE]
      rw [unhide NE] at bd
      go_wp2_with fail
      refine (rfit_any _ _ _).mono ?_
      rintro e w4 ⟨rfl, k4⟩
      obtain ⟨c4, f4⟩ := bcell k4
      have z4 : w.heap.size < w4.heap.size := by have := k4.size; simp at this; omega
      go_wp2_with fail
      refine bodyPost_ret (v := .tuple #[.agg #[.int .i64 (fitM _ _), .int .i64 (fitS _ _)], .int .i64 (fitE _ _)]) (by simp [results, Tryd.results69, go_sem, c4]) rfl ⟨rfl, ?_⟩
      exact ((bstep (below1 w _) k4).setCell (by simp) _).setCell (by simp) _

set_option maxHeartbeats 3200000 in
theorem rparse_over_posf (l : List UInt8) (w : World) (hl : l.length ≤ 1000) (h0 : 0 < l.length) (h45 : l[0].toNat ≠ 45) (a b : List UInt8) (hr : (l.drop 0) = a ++ 46 :: b) (ha : a.all isDig = true) (hb : b.all isDig = true) (la : 1 ≤ a.length) (lb : 1 ≤ b.length) (ho : 18 < a.length + b.length ∨ 8 < b.length) :
    Calls Tryd.prog 69 #[.string ⟨l.toArray⟩] w fun e w' => e = .returned (.tuple #[.agg #[.int .i64 0, .int .i64 0], .int .i64 3]) ∧ Below w.heap.size w w' := by
  have hg0 : (⟨l.toArray⟩ : ByteArray)[0]'(by simpa [ByteArray.size] using h0) = l[0] := rfl
  have e45 : ((l[0].toNat : Int) == 45) = false := by simp; omega
  have D1 := hide (fun w => rdigs_run l 0 w hl (by omega))
  have hlen := List.length_drop (i := 0) (l := l)
  have eA : run isDig (l.drop 0) = a.length := by rw [hr, irun_app ha]; rfl
  rw [eA] at D1
  have hrl : (l.drop 0).length = a.length + 1 + b.length := by rw [hr]; simp; omega
  have hlt' : a.length < l.length := by omega
  have h46 : l[a.length].toNat = 46 := by
    have h1 : (l.drop 0)[a.length]'(by omega) = 46 := by simp only [hr]; simp
    rw [List.getElem_drop] at h1
    have h2 : l[a.length] = 46 := by simpa using h1
    rw [h2]; rfl
  have eB : run isDig (l.drop (a.length + 1)) = b.length := by
    have h1 : l.drop (a.length + 1) = (l.drop 0).drop (a.length + 1) := by rw [List.drop_drop]; congr 1; try omega
    rw [h1, hr, ← List.drop_drop, List.drop_left' rfl]
    exact irun_self hb
  have D2 := hide (fun w => rdigs_run l (a.length + 1) w hl (by omega))
  rw [eB, show ((a.length + 1 : Nat) : Int) = (a.length : Int) + 1 by omega] at D2
  clear hr ha hb eA eB
  generalize a.length = A at *
  generalize b.length = B at *
  have hgA : (⟨l.toArray⟩ : ByteArray)[A]'(by simpa [ByteArray.size] using hlt') = l[A] := rfl
  have e46 : ((l[A].toNat : Int) == 46) = true := by simp; omega
  have eA : ((A : Int) == 0) = false := by simp; omega
  have eB : ((B : Int) == 0) = false := by simp; omega
  have ene : ((A : Int) + 1 + B != (l.length : Int)) = false := by simp; omega
  have k1 : l.length ≤ A + 1 + B := by omega
  have k2 : A + 1 + B ≤ l.length := by omega
  clear h45 h46 hlen hrl
  by_cases h18 : 18 < (A : Int) + B
  · clear ho
    go_enter Tryd.func69, Tryd.ntmps69
    go_wp2_with fail
    refine (unhide D1 _).mono ?_
    rintro e w1 ⟨rfl, rfl⟩
    go_wp2_with fail
    refine (unhide D2 _).mono ?_
    rintro e w1 ⟨rfl, rfl⟩
    go_wp2_with fail
    refine bodyPost_ret (v := .tuple #[.agg #[.int .i64 0, .int .i64 0], .int .i64 3]) (by simp [results, Tryd.results69, go_sem]) rfl ⟨rfl, ?_⟩
    exact below1 _ _
  · have h8 : 8 < (B : Int) := by omega
    clear ho
    go_enter Tryd.func69, Tryd.ntmps69
    go_wp2_with fail
    refine (unhide D1 _).mono ?_
    rintro e w1 ⟨rfl, rfl⟩
    go_wp2_with fail
    refine (unhide D2 _).mono ?_
    rintro e w1 ⟨rfl, rfl⟩
    go_wp2_with fail
    refine bodyPost_ret (v := .tuple #[.agg #[.int .i64 0, .int .i64 0], .int .i64 3]) (by simp [results, Tryd.results69, go_sem]) rfl ⟨rfl, ?_⟩
    exact below1 _ _

set_option maxHeartbeats 3200000 in
set_option maxRecDepth 10000 in
theorem rparse_ok_posf (l : List UInt8) (w : World) (hl : l.length ≤ 1000) (h0 : 0 < l.length) (h45 : l[0].toNat ≠ 45) (a b : List UInt8) (hr : (l.drop 0) = a ++ 46 :: b) (ha : a.all isDig = true) (hb : b.all isDig = true) (la : 1 ≤ a.length) (lb : 1 ≤ b.length) (h18 : a.length + b.length ≤ 18) (h8 : b.length ≤ 8) :
    Calls Tryd.prog 69 #[.string ⟨l.toArray⟩] w fun e w' => e = .returned (.tuple #[.agg #[.int .i64 (fitM (num (a ++ b)) b.length), .int .i64 (fitS (num (a ++ b)) b.length)], .int .i64 (fitE (num (a ++ b)) b.length)]) ∧ Below w.heap.size w w' := by
  have hg0 : (⟨l.toArray⟩ : ByteArray)[0]'(by simpa [ByteArray.size] using h0) = l[0] := rfl
  have e45 : ((l[0].toNat : Int) == 45) = false := by simp; omega
  have D1 := hide (fun w => rdigs_run l 0 w hl (by omega))
  have hlen := List.length_drop (i := 0) (l := l)
  have eA : run isDig (l.drop 0) = a.length := by rw [hr, irun_app ha]; rfl
  rw [eA] at D1
  have hrl : (l.drop 0).length = a.length + 1 + b.length := by rw [hr]; simp; omega
  have hlt' : a.length < l.length := by omega
  have h46 : l[a.length].toNat = 46 := by
    have h1 : (l.drop 0)[a.length]'(by omega) = 46 := by simp only [hr]; simp
    rw [List.getElem_drop] at h1
    have h2 : l[a.length] = 46 := by simpa using h1
    rw [h2]; rfl
  have eB : run isDig (l.drop (a.length + 1)) = b.length := by
    have h1 : l.drop (a.length + 1) = (l.drop 0).drop (a.length + 1) := by rw [List.drop_drop]; congr 1; try omega
    rw [h1, hr, ← List.drop_drop, List.drop_left' rfl]
    exact irun_self hb
  have D2 := hide (fun w => rdigs_run l (a.length + 1) w hl (by omega))
  rw [eB, show ((a.length + 1 : Nat) : Int) = (a.length : Int) + 1 by omega] at D2
  have hF0 : (l.drop 0).filter nd = a ++ b := by
    rw [hr, List.filter_append, filter_dig ha, List.filter_cons, filter_dig hb]
    rfl
  obtain ⟨F, hFF⟩ : ∃ F, a ++ b = F := ⟨_, rfl⟩
  have hF : (l.drop 0).filter nd = F := by rw [hF0, hFF]
  have hFd : ((l.drop 0).filter nd).all isDig = true := by rw [hF0, List.all_append, ha, hb]; rfl
  have hFl : ((l.drop 0).filter nd).length ≤ 18 := by rw [hF0, List.length_append]; exact h18
  have STD : Hid (∀ k (h1 : 0 ≤ k) (h : k < l.length), l[k].toNat = 46 → numK (l.drop 0) (k + 1 - 0) = numK (l.drop 0) (k - 0)) := by
    intro k h1 h hc
    have hh : (l.drop 0)[k - 0]'(by rw [List.length_drop]; omega) = l[k] := by rw [List.getElem_drop]; congr 1; omega
    rw [show k + 1 - 0 = (k - 0) + 1 by omega]
    exact numK_dot (l.drop 0) (k - 0) (by rw [List.length_drop]; omega) (by rw [hh]; exact hc)
  have STN : Hid (∀ k (h1 : 0 ≤ k) (h : k < l.length), l[k].toNat ≠ 46 → numK (l.drop 0) (k + 1 - 0) = numK (l.drop 0) (k - 0) * 10 + ((l[k].toNat : Int) - 48) ∧ 48 ≤ (l[k].toNat : Int) ∧ (l[k].toNat : Int) ≤ 57) := by
    intro k h1 h hc
    have hh : (l.drop 0)[k - 0]'(by rw [List.length_drop]; omega) = l[k] := by rw [List.getElem_drop]; congr 1; omega
    rw [show k + 1 - 0 = (k - 0) + 1 by omega]
    have q := numK_dig (l.drop 0) (k - 0) (by rw [List.length_drop]; omega) (by rw [hh]; exact hc)
    have q2 := nd_dig (l.drop 0) hFd (k - 0) (by rw [List.length_drop]; omega) (by rw [hh]; exact hc)
    rw [hh] at q q2
    exact ⟨q, q2⟩
  have BD := hide (numK_bd (l.drop 0) hFd hFl)
  have NE : Hid (numK (l.drop 0) (l.length - 0) = num F) := by
    have := numK_all (l.drop 0)
    rw [List.length_drop, hF] at this
    exact this
  rw [hFF]
  generalize hRR : (l.drop 0) = R at STD STN BD NE
  generalize num F = X0 at *
  clear hr ha hb eA eB hF hFd hFl hF0 hFF hRR
  generalize a.length = A at *
  generalize b.length = B at *
  have hgA : (⟨l.toArray⟩ : ByteArray)[A]'(by simpa [ByteArray.size] using hlt') = l[A] := rfl
  have e46 : ((l[A].toNat : Int) == 46) = true := by simp; omega
  have eA : ((A : Int) == 0) = false := by simp; omega
  have eB : ((B : Int) == 0) = false := by simp; omega
  have ene : ((A : Int) + 1 + B != (l.length : Int)) = false := by simp; omega
  have k1 : l.length ≤ A + 1 + B := by omega
  have k2 : A + 1 + B ≤ l.length := by omega
  clear h45 h46 hlen hrl
  go_enter Tryd.func69, Tryd.ntmps69
  go_wp2_with fail
  refine (unhide D1 _).mono ?_
  rintro e w1 ⟨rfl, rfl⟩
  go_wp2_with fail
  refine (unhide D2 _).mono ?_
  rintro e w1 ⟨rfl, rfl⟩
  go_wp2_with fail
  go_loop [8, 9] (fun m i => ∃ k : Nat, 0 ≤ k ∧ k ≤ l.length ∧ i = .int .i64 k ∧ m = .int .i64 (numK R (k - 0))) (fun _ i => l.length - (intOf i).toNat)
  case atStart => exact ⟨0, by omega, by omega, rfl, rfl⟩
  case round =>
    obtain ⟨k, hk1, hk2, rfl, rfl⟩ := hrel
    have bd := unhide BD (k - 0)
    by_cases hlt : k < l.length
    · have hgk : (⟨l.toArray⟩ : ByteArray)[k]'(by simpa [ByteArray.size] using hlt) = l[k] := rfl
      by_cases hc : l[k].toNat = 46
      · have en : ((l[k].toNat : Int) != 46) = false := by simp; omega
        have NS := hide (unhide STD k hk1 hlt hc)
        clear hc
        generalize numK R (k - 0) = n0 at *
        go_wp2_with fail
        go_round
        case rel => exact ⟨k + 1, by omega, by omega, by go_num, by rw [unhide NS]⟩
        case measure => simp [intOf]; omega
      · have en : ((l[k].toNat : Int) != 46) = true := by simp; omega
        obtain ⟨ns, d1, d2⟩ := unhide STN k hk1 hlt hc
        have bd2 := unhide BD (k + 1 - 0)
        rw [ns] at bd2
        have NS := hide ns
        clear hc ns
        generalize numK R (k - 0) = n0 at *
        go_wp2_with fail
        go_round
        case rel => exact ⟨k + 1, by omega, by omega, by go_num, by rw [unhide NS]⟩
        case measure => simp [intOf]; omega
    · have hkl : k = l.length := by omega
      subst hkl
      rw [unhide NE]
      rw [unhide NE] at bd
      go_wp2_with fail
      refine (rfit_any _ _ _).mono ?_
      rintro e w4 ⟨rfl, k4⟩
      obtain ⟨c4, f4⟩ := bcell k4
      have z4 : w.heap.size < w4.heap.size := by have := k4.size; simp at this; omega
      go_wp2_with fail
      refine bodyPost_ret (v := .tuple #[.agg #[.int .i64 (fitM _ _), .int .i64 (fitS _ _)], .int .i64 (fitE _ _)]) (by simp [results, Tryd.results69, go_sem, c4]) rfl ⟨rfl, ?_⟩
      exact ((bstep (below1 w _) k4).setCell (by simp) _).setCell (by simp) _

end Go.Proofs.YtdlfgnmcokdceabDoor

/- dec's Parse and the document's answer alike at every text. -/
namespace Go.Proofs.YtdlfgnmcokdceabDoor
open Go.RowKit
set_option linter.unusedVariables false

/- what Parse answers. -/
def PA (f : Nat) (l : List UInt8) (M S E : Int) : Prop := ∀ w : World, Calls Tryd.prog f #[.string ⟨l.toArray⟩] w fun e w' => e = .returned (.tuple #[.agg #[.int .i64 M, .int .i64 S], .int .i64 E]) ∧ Below w.heap.size w w'
def CP (l r : List UInt8) (neg : Bool) : Prop := ∀ w : World, Calls Tryd.prog 75 #[.string ⟨l.toArray⟩, .string ⟨#[45]⟩] w fun e w' => e = .returned (.tuple #[.string ⟨r.toArray⟩, .bool neg]) ∧ w' = w
theorem dp_bad {l r : List UInt8} {neg : Bool} (hc : CP l r neg) (hr : r.length ≤ 1000) (h : Bad r) : PA 71 l 0 0 2 := by
  intro w
  rcases idx_facts r 46 with e | ⟨k, e, hk⟩
  · exact parse_bad1 l r r [] neg false w ⟨hc, fun w => cut_no r w hr e⟩ hr (by simp) (bad_whole h)
  · obtain ⟨hk', h46⟩ := idx_at r k e
    have hp : ParsePre l r (r.take k) (r.drop (k + 1)) neg true := ⟨hc, fun w => cut_yes r k w hr e hk⟩
    have l1 : (r.take k).length ≤ 1000 := by rw [List.length_take]; omega
    have l2 : (r.drop (k + 1)).length ≤ 1000 := by rw [List.length_drop]; omega
    rcases bad_both h hk h46 with h1 | ⟨h1, h2⟩
    · exact parse_bad1 l r _ _ neg true w hp l1 l2 h1
    · exact parse_bad2 l r _ _ neg w hp l1 l2 h1 h2
theorem dp_w {l r : List UInt8} {neg : Bool} (hc : CP l r neg) (hr : r.length ≤ 1000) (ha : r.all isDig = true) (la : 1 ≤ r.length) : (18 < r.length → PA 71 l 0 0 3) ∧
    (r.length ≤ 18 → PA 71 l (fitM (if neg = true then -(num r) else num r) 0) (fitS (if neg = true then -(num r) else num r) 0) (fitE (if neg = true then -(num r) else num r) 0)) := by
  have hp : ParsePre l r r [] neg false := ⟨hc, fun w => cut_no r w hr (idx_dig ha)⟩
  have hd := digs_mk ha la
  constructor
  · intro h w
    exact parse_over l r r [] neg false w hp hr (by simp) hd (fun h => by cases h) (Or.inl (by simpa using h))
  · intro h w
    have q := parse_ok l r r [] neg false w hp hd (fun h => by cases h) rfl (by simpa using h) (by simp)
    have e : parseM r [] neg = if neg = true then -(num r) else num r := by
      unfold parseM
      simp [num, p10]
    rw [e] at q
    exact q
theorem dp_f {l r : List UInt8} {neg : Bool} (hc : CP l r neg) (hr : r.length ≤ 1000) (a b : List UInt8) (hrr : r = a ++ 46 :: b) (ha : a.all isDig = true) (hb : b.all isDig = true) (la : 1 ≤ a.length) (lb : 1 ≤ b.length) :
    (18 < a.length + b.length ∨ 8 < b.length → PA 71 l 0 0 3) ∧
    (a.length + b.length ≤ 18 → b.length ≤ 8 → PA 71 l (fitM (if neg = true then -(num (a ++ b)) else num (a ++ b)) b.length) (fitS (if neg = true then -(num (a ++ b)) else num (a ++ b)) b.length) (fitE (if neg = true then -(num (a ++ b)) else num (a ++ b)) b.length)) := by
  have hk : a.length < r.length := by rw [hrr]; simp
  have hp0 := fun w => cut_yes r a.length w hr (by rw [hrr]; exact idx_app ha b) hk
  have e1 : r.take a.length = a := by rw [hrr]; simp
  have e2 : r.drop (a.length + 1) = b := by rw [hrr, ← List.drop_drop]; simp
  rw [e1, e2] at hp0
  have hp : ParsePre l r a b neg true := ⟨hc, hp0⟩
  have hl : r.length = a.length + 1 + b.length := by rw [hrr]; simp; omega
  constructor
  · intro h w
    exact parse_over l r a b neg true w hp (by omega) (by omega) (digs_mk ha la) (fun _ => digs_mk hb lb) h
  · intro h1 h2 w
    have q := parse_ok l r a b neg true w hp (digs_mk ha la) (fun _ => digs_mk hb lb) hb h1 h2
    have e : parseM a b neg = if neg = true then -(num (a ++ b)) else num (a ++ b) := by
      unfold parseM
      rw [num_app]
    rw [e] at q
    exact q
theorem both_parse (l : List UInt8) (hl : l.length ≤ 1000) : ∃ M S E : Int, PA 71 l M S E ∧ PA 69 l M S E := by
  cases hl0 : l with
  | nil =>
    refine ⟨0, 0, 2, ?_, fun w => rparse_nil w⟩
    exact dp_bad (r := []) (neg := false) (fun w => cutp_nil w) (by simp) (Or.inl rfl)
  | cons c t =>
    rw [← hl0]
    have h0 : 0 < l.length := by rw [hl0]; simp
    have hg : l[0] = c := by simp [hl0]
    by_cases h45 : c.toNat = 45
    · have hc45 : c = 45 := UInt8.toNat.inj (by rw [h45]; rfl)
      have hdr : l.drop 1 = t := by rw [hl0]; rfl
      have hcp : CP l (l.drop 1) true := by
        rw [hdr, hl0, hc45]
        exact fun w => cutp_yes t w (by rw [hl0] at hl; simp at hl; omega)
      have hrl : (l.drop 1).length ≤ 1000 := by rw [List.length_drop]; omega
      have g45 : l[0].toNat = 45 := by rw [hg]; exact h45
      rcases shapes (l.drop 1) with hb | ⟨ha, la⟩ | ⟨a, b, hr, ha, hb, la, lb⟩
      · exact ⟨0, 0, 2, dp_bad hcp hrl hb, fun w => rparse_bad_neg l w hl h0 g45 hb⟩
      · by_cases h18 : 18 < (l.drop 1).length
        · exact ⟨0, 0, 3, (dp_w hcp hrl ha la).1 h18, fun w => rparse_over_negw l w hl h0 g45 ha la h18⟩
        · exact ⟨_, _, _, (dp_w hcp hrl ha la).2 (by omega), fun w => rparse_ok_negw l w hl h0 g45 ha la (by omega)⟩
      · by_cases ho : 18 < a.length + b.length ∨ 8 < b.length
        · exact ⟨0, 0, 3, (dp_f hcp hrl a b hr ha hb la lb).1 ho, fun w => rparse_over_negf l w hl h0 g45 a b hr ha hb la lb ho⟩
        · exact ⟨_, _, _, (dp_f hcp hrl a b hr ha hb la lb).2 (by omega) (by omega), fun w => rparse_ok_negf l w hl h0 g45 a b hr ha hb la lb (by omega) (by omega)⟩
    · have hcp : CP l (l.drop 0) false := by
        rw [List.drop_zero, hl0]
        exact fun w => cutp_no c t w (by rw [hl0] at hl; simp at hl; omega) (fun e => h45 (by rw [e]; rfl))
      have hrl : (l.drop 0).length ≤ 1000 := by rw [List.length_drop]; omega
      have g45 : l[0].toNat ≠ 45 := by rw [hg]; exact h45
      rcases shapes (l.drop 0) with hb | ⟨ha, la⟩ | ⟨a, b, hr, ha, hb, la, lb⟩
      · exact ⟨0, 0, 2, dp_bad hcp hrl hb, fun w => rparse_bad_pos l w hl h0 g45 hb⟩
      · by_cases h18 : 18 < (l.drop 0).length
        · exact ⟨0, 0, 3, (dp_w hcp hrl ha la).1 h18, fun w => rparse_over_posw l w hl h0 g45 ha la h18⟩
        · exact ⟨_, _, _, (dp_w hcp hrl ha la).2 (by omega), fun w => rparse_ok_posw l w hl h0 g45 ha la (by omega)⟩
      · by_cases ho : 18 < a.length + b.length ∨ 8 < b.length
        · exact ⟨0, 0, 3, (dp_f hcp hrl a b hr ha hb la lb).1 ho, fun w => rparse_over_posf l w hl h0 g45 a b hr ha hb la lb ho⟩
        · exact ⟨_, _, _, (dp_f hcp hrl a b hr ha hb la lb).2 (by omega) (by omega), fun w => rparse_ok_posf l w hl h0 g45 a b hr ha hb la lb (by omega) (by omega)⟩
end Go.Proofs.YtdlfgnmcokdceabDoor

/- The contract of the law's digits: a number in digits. -/
import Derived.Test.YtlcckhlkmnnjdaaDoorLPre
import Derived.RegionTactic
import Derived.BigRegion
import Derived.Test.YtlcckhlkmnnjdaaDoorRegMan
import Derived.Test.YtlcckhlkmnnjdaaDoorKeep
namespace Go.Proofs.YtlcckhlkmnnjdaaDoor
open Go.RowKit
set_option linter.unusedVariables false

def dch (k : Nat) : UInt8 := UInt8.ofNat (48 + k)
theorem dch_nat {k : Nat} (h : k < 10) : (dch k).toNat = 48 + k := by unfold dch; rw [UInt8.toNat_ofNat']; omega
def dgF : Nat → Nat → List UInt8
  | 0, _ => []
  | f + 1, n => if n < 10 then [dch n] else dgF f (n / 10) ++ [dch (n % 10)]
theorem dg_of {k : Nat} (h : k < 10) : dgB (dch k) = true := by
  have e := dch_nat h
  unfold dgB
  rw [e]
  simp
  omega
theorem dgF_ok (f : Nat) : ∀ n, n < 10 ^ f → f ≠ 0 → (dgF f n).all dgB = true ∧ 1 ≤ (dgF f n).length ∧ (dgF f n).length ≤ f := by
  induction f with
  | zero => intro n h h0; exact absurd rfl h0
  | succ f ih =>
    intro n h _
    unfold dgF
    by_cases h10 : n < 10
    · rw [if_pos h10]
      exact ⟨by simp [dg_of h10], by simp, by simp⟩
    · rw [if_neg h10]
      have hf : f ≠ 0 := by
        intro e; subst e; simp at h; omega
      have hn : n / 10 < 10 ^ f := by rw [Nat.pow_succ] at h; omega
      obtain ⟨a, b, c⟩ := ih (n / 10) hn hf
      refine ⟨?_, ?_, ?_⟩
      · rw [List.all_append, a]; simp [dg_of (show n % 10 < 10 by omega)]
      · rw [List.length_append]; omega
      · rw [List.length_append]; simp; omega
theorem lconv_one (u : World) (b k : Nat) (hk : k < 10) (h : u.cell? ⟨b, 0, none⟩ = some (.int .u8 (48 + (k : Int)))) :
    (convert 49 9 (.slice (some ⟨b, 0, none⟩) 1 1)).run Tryd.prog u = .ok (.string ⟨[dch k].toArray⟩) u := by
  have e : ((dch k).toNat : Int) = 48 + (k : Int) := by rw [dch_nat hk]; omega
  refine (run_convert_bytes_back (P := Tryd.prog) u 49 9 5 ⟨b, 0, none⟩ 1 [dch k] Tryd.underlying49 Tryd.underlying5 Tryd.underlying9 ?_).trans rfl
  intro j hj
  have hj0 : j = 0 := by simp at hj; omega
  subst hj0
  show u.cell? ⟨b, 0, none⟩ = some (.int .u8 ((dch k).toNat : Int))
  rw [e]; exact h

theorem u8_in {n : Int} (h1 : 0 ≤ n) (h2 : n ≤ 255) : IntKind.u8.wrap n = n := by
  show (if (IntKind.u8.signed && decide (n % (2 ^ 8 : Int) ≥ (2 ^ 7 : Int))) = true then n % (2 ^ 8 : Int) - (2 ^ 8 : Int) else n % (2 ^ 8 : Int)) = n
  simp only [IntKind.signed, Bool.false_and, Bool.false_eq_true, if_false]
  omega
theorem dba_app (l l' : List UInt8) : (⟨l.toArray⟩ : ByteArray) ++ ⟨l'.toArray⟩ = ⟨(l ++ l').toArray⟩ := by
  apply ByteArray.ext
  simp

set_option maxHeartbeats 3200000 in
theorem ldigits_any (f : Nat) : ∀ (n : Nat) (w : World), n < 10 ^ f → f ≠ 0 → f ≤ 5 →
    Calls Tryd.prog 15 #[.int .i64 n] w fun e w' => e = .returned (.string ⟨(dgF f n).toArray⟩) ∧ Below w.heap.size w w' := by
  induction f with
  | zero => intro n w h h0; exact absurd rfl h0
  | succ f ih =>
    intro n w h h0 h5
    by_cases h10 : n < 10
    · have hcv := lconv_one (w.alloc (Obj.cells #[.int .u8 (48 + (n : Int))] 5)) w.heap.size n h10 (by go_simp)
      have HR := hide (show dgF (f + 1) n = [dch n] by unfold dgF; rw [if_pos h10])
      generalize dgF (f + 1) n = X at *
      clear ih h h0
      go_enter Tryd.func15, Tryd.ntmps15
      go_wp2_with fail
      go_ret
      exact ⟨ret_lst (unhide HR).symm, below1 _ _⟩
    · have hf : f ≠ 0 := by
        intro e; subst e; simp at h; omega
      have hn : n / 10 < 10 ^ f := by rw [Nat.pow_succ] at h; omega
      have ih2 := fun w => ih (n / 10) w hn hf (by omega)
      rw [show ((n / 10 : Nat) : Int) = (n : Int) / 10 by omega] at ih2
      have IH := hide ih2
      clear ih2
      have hl := (dgF_ok f (n / 10) hn hf).2.2
      have HR := hide (show dgF (f + 1) n = dgF f (n / 10) ++ [dch (n % 10)] by rw [dgF, if_neg h10])
      have hn5 : n < 100000 := Nat.lt_of_lt_of_le h (Nat.le_trans (Nat.pow_le_pow_right (by omega) h5) (by decide))
      generalize dgF (f + 1) n = X at *
      generalize dgF f (n / 10) = Y at *
      have BA := dba_app Y [dch (n % 10)]
      have hcv : ∀ (u : World) (b : Nat), u.cell? ⟨b, 0, none⟩ = some (.int .u8 (48 + (n : Int) % 10)) → (convert 49 9 (.slice (some ⟨b, 0, none⟩) 1 1)).run Tryd.prog u = .ok (.string ⟨[dch (n % 10)].toArray⟩) u := by
        intro u b hu
        exact lconv_one u b (n % 10) (by omega) (by rw [hu]; simp)
      generalize dch (n % 10) = c at *
      have q1 : (n : Int).tdiv 10 = (n : Int) / 10 := Int.tdiv_eq_ediv_of_nonneg (by omega)
      have q2 : (n : Int).tmod 10 = (n : Int) % 10 := Int.tmod_eq_emod_of_nonneg (by omega)
      have q3 : IntKind.i64.wrap ((n : Int) / 10) = (n : Int) / 10 := i64_in (by omega) (by omega)
      have q4 : IntKind.i64.wrap ((n : Int) % 10) = (n : Int) % 10 := i64_in (by omega) (by omega)
      have q5 : IntKind.i64.wrap (48 + (n : Int) % 10) = 48 + (n : Int) % 10 := i64_in (by omega) (by omega)
      have q6 : IntKind.u8.wrap (48 + (n : Int) % 10) = 48 + (n : Int) % 10 := u8_in (by omega) (by omega)
      have hbig : (9223372036854775807 < Y.length + 1) = False := eq_false (by omega)
      clear ih h h0 hn
      go_enter Tryd.func15, Tryd.ntmps15
      go_wp2_with fail
      refine wp_region_noPanic ?_
      refine wp_region_held_drew (S := fun w' => Below w.heap.size w w') (by kernel_rfl) ?hS0 (fun hHeld => ?_)
      case hS0 => exact (Below.refl _ _).drew
      generalize w.drew = u0 at *
      refine takeAt 0 (some 10) ?v0 ⟨_, rfl, rfl, rfl, ?hy0⟩ (by kernel_rfl) (by kernel_rfl) (by kernel_rfl) (fun _ _ _ h => h) (by assumption) ?_
      case hy0 => (intro w0 hSw; (try dsimp only at hSw); go_simp; try (with_reducible rfl))
      simp only [Act.put, List.setIfInBounds_toArray, List.set_cons_zero, List.set_cons_succ]
      refine takeAt 1 (some 11) ?v1 ⟨_, rfl, rfl, rfl, ?hy1⟩ (by kernel_rfl) (by kernel_rfl) (by kernel_rfl) (fun _ _ _ h => h) (by assumption) ?_
      case hy1 => (intro w0 hSw; (try dsimp only at hSw); go_simp; try (with_reducible rfl))
      simp only [Act.put, List.setIfInBounds_toArray, List.set_cons_zero, List.set_cons_succ]
      refine takeAt 3 (some 13) ?v3 ⟨_, rfl, rfl, rfl, ?hy3⟩ (by kernel_rfl) (by kernel_rfl) (by kernel_rfl) (fun _ _ _ h => h) (by assumption) ?_
      case hy3 => (intro w0 hSw; (try dsimp only at hSw); go_simp; try (with_reducible rfl))
      simp only [Act.put, List.setIfInBounds_toArray, List.set_cons_zero, List.set_cons_succ]
      refine takeAt 4 (some 14) ?v4 ⟨_, rfl, rfl, rfl, ?hy4⟩ (by kernel_rfl) (by kernel_rfl) (by kernel_rfl) (fun _ _ _ h => h) (by assumption) ?_
      case hy4 => (intro w0 hSw; (try dsimp only at hSw); go_simp; try (with_reducible rfl))
      simp only [Act.put, List.setIfInBounds_toArray, List.set_cons_zero, List.set_cons_succ]
      refine takeAt 5 (some 15) ?v5 ⟨_, rfl, rfl, rfl, ?hy5⟩ (by kernel_rfl) (by kernel_rfl) (by kernel_rfl) (fun _ _ _ h => h) (by assumption) ?_
      case hy5 => (intro w0 hSw; (try dsimp only at hSw); go_simp; try (with_reducible rfl))
      simp only [Act.put, List.setIfInBounds_toArray, List.set_cons_zero, List.set_cons_succ]
      refine takeAt 6 (some 16) ?v6 ⟨_, rfl, rfl, rfl, ?hy6⟩ (by kernel_rfl) (by kernel_rfl) (by kernel_rfl) (fun _ _ _ h => h) (by assumption) ?_
      case hy6 => (intro w0 hSw; (try dsimp only at hSw); go_simp; try (with_reducible rfl))
      simp only [Act.put, List.setIfInBounds_toArray, List.set_cons_zero, List.set_cons_succ]
      refine wpAnyH_ready (rs := [2, 7]) (by kernel_rfl) (by simp) ?_
      refine AllReadyH.cons rfl (fun K0 hK0 => ?_) (AllReadyH.cons rfl (fun K0 hK0 => ?_) AllReadyH.nil)
      · skip
        go_simp
        refine (unhide IH _).mono ?_
        rintro e u1 ⟨rfl, j1⟩
        go_wp2_with fail
        refine hK0.out _ _ ?hS1 (fun hHeld1 => ?_)
        case hS1 => exact bstep hHeld j1
        clear hK0 K0
        clear j1
        clear hHeld
        have hHeld := hHeld1
        clear hHeld1
        try simp only [Act.put, List.setIfInBounds_toArray, List.set_cons_zero, List.set_cons_succ]
        refine wpAnyH_ready (rs := [7]) (by kernel_rfl) (by simp) ?_
        refine AllReadyH.cons rfl (fun K0 hK0 => ?_) AllReadyH.nil
        · skip
          go_simp
          refine hK0.out _ _ ?hS2 (fun hHeld1 => ?_)
          case hS2 => exact bstep hHeld (below1 _ _)
          clear hK0 K0
          have hc : (u1.alloc (Obj.cells #[.int .u8 (48 + (n : Int) % 10)] 5)).cell? ⟨u1.heap.size, 0, none⟩ = some (.int .u8 (48 + (n : Int) % 10)) := by go_simp
          have hz : u1.heap.size < (u1.alloc (Obj.cells #[.int .u8 (48 + (n : Int) % 10)] 5)).heap.size := by simp
          generalize u1.alloc (Obj.cells #[.int .u8 (48 + (n : Int) % 10)] 5) = u2 at *
          generalize u1.heap.size = b at *
          clear hHeld
          have hHeld := hHeld1
          clear hHeld1
          try simp only [Act.put, List.setIfInBounds_toArray, List.set_cons_zero, List.set_cons_succ]
          refine wpAnyH_ready (rs := [8]) (by kernel_rfl) (by simp) ?_
          refine AllReadyH.cons rfl (fun K0 hK0 => ?_) AllReadyH.nil
          · skip
            have hcv' := hcv _ _ hc
            go_simp
            refine hK0.out _ _ ?hS3 (fun hHeld1 => ?_)
            case hS3 => exact hHeld
            clear hK0 K0 hcv'
            clear hHeld
            have hHeld := hHeld1
            clear hHeld1
            try simp only [Act.put, List.setIfInBounds_toArray, List.set_cons_zero, List.set_cons_succ]
            refine takeAt 9 (some 19) ?v9_3 ⟨_, rfl, rfl, rfl, ?hy9_3⟩ (by kernel_rfl) (by kernel_rfl) (by kernel_rfl) (fun _ _ _ h => h) (by assumption) ?_
            case hy9_3 => (intro w0 hSw; (try dsimp only at hSw); go_simp; try (with_reducible rfl))
            simp only [Act.put, List.setIfInBounds_toArray, List.set_cons_zero, List.set_cons_succ]
            refine takeAt 10 (some 2) ?v10_3 ⟨_, rfl, rfl, rfl, ?hy10_3⟩ (by kernel_rfl) (by kernel_rfl) (by kernel_rfl) (fun _ _ _ h => h) (by assumption) ?_
            case hy10_3 => (intro w0 hSw; (try dsimp only at hSw); go_simp; try (with_reducible rfl))
            simp only [Act.put, List.setIfInBounds_toArray, List.set_cons_zero, List.set_cons_succ]
            refine wpAnyH_done (by kernel_rfl) ?_ _
            refine NoPanic.normal ?_
            go_wp2_with fail
            go_ret
            exact ⟨ret_lst (unhide HR).symm, hHeld⟩
      · skip
        go_simp
        refine hK0.out _ _ ?hS4 (fun hHeld1 => ?_)
        case hS4 => exact bstep hHeld (below1 _ _)
        clear hK0 K0
        have hc : (u0.alloc (Obj.cells #[.int .u8 (48 + (n : Int) % 10)] 5)).cell? ⟨u0.heap.size, 0, none⟩ = some (.int .u8 (48 + (n : Int) % 10)) := by go_simp
        have hz : u0.heap.size < (u0.alloc (Obj.cells #[.int .u8 (48 + (n : Int) % 10)] 5)).heap.size := by simp
        generalize u0.alloc (Obj.cells #[.int .u8 (48 + (n : Int) % 10)] 5) = u4 at *
        generalize u0.heap.size = b at *
        clear hHeld
        have hHeld := hHeld1
        clear hHeld1
        try simp only [Act.put, List.setIfInBounds_toArray, List.set_cons_zero, List.set_cons_succ]
        refine wpAnyH_ready (rs := [2, 8]) (by kernel_rfl) (by simp) ?_
        refine AllReadyH.cons rfl (fun K0 hK0 => ?_) (AllReadyH.cons rfl (fun K0 hK0 => ?_) AllReadyH.nil)
        · skip
          go_simp
          refine (unhide IH _).mono ?_
          rintro e u5 ⟨rfl, j5⟩
          go_wp2_with fail
          refine hK0.out _ _ ?hS5 (fun hHeld1 => ?_)
          case hS5 => exact bstep hHeld j5
          clear hK0 K0
          have hc5 := kcell j5 hz hc
          have hz5 := Nat.lt_of_lt_of_le hz j5.size
          clear hc hz
          have hc := hc5
          have hz := hz5
          clear hc5 hz5
          clear j5
          clear hHeld
          have hHeld := hHeld1
          clear hHeld1
          try simp only [Act.put, List.setIfInBounds_toArray, List.set_cons_zero, List.set_cons_succ]
          refine wpAnyH_ready (rs := [8]) (by kernel_rfl) (by simp) ?_
          refine AllReadyH.cons rfl (fun K0 hK0 => ?_) AllReadyH.nil
          · skip
            have hcv' := hcv _ _ hc
            go_simp
            refine hK0.out _ _ ?hS6 (fun hHeld1 => ?_)
            case hS6 => exact hHeld
            clear hK0 K0 hcv'
            clear hHeld
            have hHeld := hHeld1
            clear hHeld1
            try simp only [Act.put, List.setIfInBounds_toArray, List.set_cons_zero, List.set_cons_succ]
            refine takeAt 9 (some 19) ?v9_6 ⟨_, rfl, rfl, rfl, ?hy9_6⟩ (by kernel_rfl) (by kernel_rfl) (by kernel_rfl) (fun _ _ _ h => h) (by assumption) ?_
            case hy9_6 => (intro w0 hSw; (try dsimp only at hSw); go_simp; try (with_reducible rfl))
            simp only [Act.put, List.setIfInBounds_toArray, List.set_cons_zero, List.set_cons_succ]
            refine takeAt 10 (some 2) ?v10_6 ⟨_, rfl, rfl, rfl, ?hy10_6⟩ (by kernel_rfl) (by kernel_rfl) (by kernel_rfl) (fun _ _ _ h => h) (by assumption) ?_
            case hy10_6 => (intro w0 hSw; (try dsimp only at hSw); go_simp; try (with_reducible rfl))
            simp only [Act.put, List.setIfInBounds_toArray, List.set_cons_zero, List.set_cons_succ]
            refine wpAnyH_done (by kernel_rfl) ?_ _
            refine NoPanic.normal ?_
            go_wp2_with fail
            go_ret
            exact ⟨ret_lst (unhide HR).symm, hHeld⟩
        · skip
          have hcv' := hcv _ _ hc
          go_simp
          refine hK0.out _ _ ?hS7 (fun hHeld1 => ?_)
          case hS7 => exact hHeld
          clear hK0 K0 hcv'
          clear hHeld
          have hHeld := hHeld1
          clear hHeld1
          try simp only [Act.put, List.setIfInBounds_toArray, List.set_cons_zero, List.set_cons_succ]
          refine wpAnyH_ready (rs := [2]) (by kernel_rfl) (by simp) ?_
          refine AllReadyH.cons rfl (fun K0 hK0 => ?_) AllReadyH.nil
          · skip
            go_simp
            refine (unhide IH _).mono ?_
            rintro e u8 ⟨rfl, j8⟩
            go_wp2_with fail
            refine hK0.out _ _ ?hS8 (fun hHeld1 => ?_)
            case hS8 => exact bstep hHeld j8
            clear hK0 K0
            have hc8 := kcell j8 hz hc
            have hz8 := Nat.lt_of_lt_of_le hz j8.size
            clear hc hz
            have hc := hc8
            have hz := hz8
            clear hc8 hz8
            clear j8
            clear hHeld
            have hHeld := hHeld1
            clear hHeld1
            try simp only [Act.put, List.setIfInBounds_toArray, List.set_cons_zero, List.set_cons_succ]
            refine takeAt 9 (some 19) ?v9_8 ⟨_, rfl, rfl, rfl, ?hy9_8⟩ (by kernel_rfl) (by kernel_rfl) (by kernel_rfl) (fun _ _ _ h => h) (by assumption) ?_
            case hy9_8 => (intro w0 hSw; (try dsimp only at hSw); go_simp; try (with_reducible rfl))
            simp only [Act.put, List.setIfInBounds_toArray, List.set_cons_zero, List.set_cons_succ]
            refine takeAt 10 (some 2) ?v10_8 ⟨_, rfl, rfl, rfl, ?hy10_8⟩ (by kernel_rfl) (by kernel_rfl) (by kernel_rfl) (fun _ _ _ h => h) (by assumption) ?_
            case hy10_8 => (intro w0 hSw; (try dsimp only at hSw); go_simp; try (with_reducible rfl))
            simp only [Act.put, List.setIfInBounds_toArray, List.set_cons_zero, List.set_cons_succ]
            refine wpAnyH_done (by kernel_rfl) ?_ _
            refine NoPanic.normal ?_
            go_wp2_with fail
            go_ret
            exact ⟨ret_lst (unhide HR).symm, hHeld⟩
end Go.Proofs.YtlcckhlkmnnjdaaDoor

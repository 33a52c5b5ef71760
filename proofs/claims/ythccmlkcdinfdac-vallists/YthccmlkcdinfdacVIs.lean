/- The contracts of val's list, fits, Is. -/
import Derived.Test.YthccmlkcdinfdacVText
import Derived.Test.YthccmlkcdinfdacVAlone
import Derived.Test.YthccmlkcdinfdacDIs
import Derived.Test.YthccmlkcdinfdacVRIs
namespace Go.Proofs.Ythccmlkcdinfdac
open Go.RowKit

def FitsOf (x : VT) : Prop := ∀ (n : Nat) (w : World), n ≤ 2 → x.In w →
    Calls Try.prog 31 #[x.val, .int .i64 n] w fun e w' => e = .returned (.bool (x.okB n)) ∧ Below w.heap.size w w'

set_option maxHeartbeats 2000000 in
theorem list_any (k : Int) (b : Bool) (m s : Int) (t : ByteArray) (a : Option Addr) (len cap : Nat) (kid : Nat → VT) (ih : ∀ i, FitsOf (kid i)) (n : Nat) (w : World) (hn : n ≤ 2) (hin : (VT.mk k b m s t a len cap kid).In w) :
    Calls Try.prog 44 #[.slice a len cap, .int .i64 n] w fun e w' => e = .returned (.bool (decide (n ≠ 0) && (decide (len ≤ 8) && (List.range len).all fun i => (kid i).okB (n - 1)))) ∧ Below w.heap.size w w' := by
  by_cases h0 : n = 0
  · subst h0
    go_enter Try.func44, Try.ntmps44
    go_wp2_with fail
    go_ret
    exact ⟨rfl, Below.refl _ _⟩
  have h0' : 0 < n := by omega
  rw [decide_eq_true h0, Bool.true_and]
  clear h0
  have e0 : ((n : Int) == 0) = false := by simp; omega
  by_cases h8 : len ≤ 8
  · rw [decide_eq_true h8, Bool.true_and]
    go_enter Try.func44, Try.ntmps44
    go_wp2_with fail
    go_loopw [16] (fun i wr => ∃ (j : Nat), j ≤ len ∧ i = .int .i64 j ∧ Hid (∀ i, i < j → (kid i).okB (n - 1) = true) ∧ Below w.heap.size w wr) (fun i _ => len - (intOf i).toNat)
    case atStart => exact ⟨0, Nat.zero_le _, rfl, hide (fun i hi => absurd hi (Nat.not_lt_zero _)), Below.refl _ _⟩
    case round =>
      obtain ⟨j, hj, rfl, HA, bel⟩ := hrel
      by_cases hlt : j < len
      · obtain ⟨bl, o, k', b', m', s', t', a', len', cap', kid', rfl, hx, six, hk⟩ := hin.kid hlt
        obtain ⟨s0, s1, s2, s3, s4, s5, s6⟩ := six.below bel
        have b1 := below1 wr (Obj.cells #[.int .i64 k', .bool b', .int .i64 m', .int .i64 s', .string t', .slice a' len' cap'] 26)
        have ihj := ih j (n - 1) (wr.alloc (Obj.cells #[.int .i64 k', .bool b', .int .i64 m', .int .i64 s', .string t', .slice a' len' cap'] 26)) (by omega)
        rw [hx, show ((n - 1 : Nat) : Int) = (n : Int) - 1 by omega] at ihj
        have ihj := ihj ((hk.below bel).below b1)
        have bel1 := bstep bel b1
        clear six ih hk hin
        have IH := hide ihj
        clear ihj
        cases hok : (kid j).okB (n - 1)
        · have FIN := hide (all_range_no (n := len) (f := fun i => (kid i).okB (n - 1)) hlt hok)
          rw [hx] at hok
          have HX := hide hx
          have HOK := hide hok
          clear hx hok
          go_wp2_with fail
          refine (unhide IH).mono ?_
          rintro e w2 ⟨rfl, k2⟩
          rw [unhide HOK]
          go_wp2_with fail
          go_ret
          exact ⟨ret_bool (unhide FIN).symm, bstep bel1 k2⟩
        · have HN := hide hok
          rw [hx] at hok
          have HX := hide hx
          have HOK := hide hok
          clear hx hok
          go_wp2_with fail
          refine (unhide IH).mono ?_
          rintro e w2 ⟨rfl, k2⟩
          rw [unhide HOK]
          go_wp2_with fail
          go_roundw
          case rel =>
            refine ⟨j + 1, by omega, by go_num, hide (fun i hi => ?_), bstep bel1 k2⟩
            by_cases hij : i = j
            · subst hij; exact unhide HN
            · exact unhide HA i (by omega)
          case measure => simp [intOf]; omega
      · have FIN := hide (all_range (n := len) (f := fun i => (kid i).okB (n - 1)) (fun i hi => unhide HA i (by omega)))
        go_wp2_with fail
        go_ret
        exact ⟨ret_bool (unhide FIN).symm, bel⟩
  · rw [decide_eq_false h8, Bool.false_and]
    go_enter Try.func44, Try.ntmps44
    go_wp2_with fail
    go_ret
    exact ⟨rfl, Below.refl _ _⟩

set_option maxHeartbeats 2000000 in
theorem fits_any (x : VT) : FitsOf x := by
  induction x with
  | none => intro q w _ h; exact absurd h (by simp [VT.In])
  | mk k b m s t a len cap kid ih =>
    intro n w hn hin
    obtain ⟨wk, wm, ws, ht, hlc, hcm⟩ := hin.1
    have ht' := hide ht
    have b0 := below1 w (Obj.cells #[.int .i64 k, .bool b, .int .i64 m, .int .i64 s, .string t, .slice a len cap] 26)
    show Calls Try.prog 31 #[.agg #[.int .i64 k, .bool b, .int .i64 m, .int .i64 s, .string t, .slice a len cap], .int .i64 n] w _
    clear wk wm ws ht hlc hcm
    cases hal : aloneB k b m s t len
    · rw [okB_no _ hal]
      have HAL := hide hal
      clear hal
      go_enter Try.func31, Try.ntmps31
      go_wp2_with fail
      refine (alone_any _ _ _ _ _ _ _ _ _).mono ?_
      rintro e w1 ⟨rfl, k1⟩
      rw [unhide HAL]
      go_wp2_with fail
      go_ret
      exact ⟨rfl, bstep b0 k1⟩
    · rw [okB_yes _ hal]
      have HAL := hide hal
      clear hal
      by_cases k0 : k = 0
      · subst k0
        go_enter Try.func31, Try.ntmps31
        go_wp2_with fail
        refine (alone_any _ _ _ _ _ _ _ _ _).mono ?_
        rintro e w1 ⟨rfl, c1⟩
        rw [unhide HAL]
        obtain ⟨d1, -⟩ := bcell c1
        go_wp2_with fail
        go_ret
        exact ⟨rfl, bstep b0 c1⟩
      by_cases k1 : k = 1
      · subst k1
        go_enter Try.func31, Try.ntmps31
        go_wp2_with fail
        refine (alone_any _ _ _ _ _ _ _ _ _).mono ?_
        rintro e w1 ⟨rfl, c1⟩
        rw [unhide HAL]
        obtain ⟨d1, -⟩ := bcell c1
        go_wp2_with fail
        go_ret
        exact ⟨rfl, bstep b0 c1⟩
      by_cases k2 : k = 2
      · subst k2
        clear k0 k1
        go_enter Try.func31, Try.ntmps31
        go_wp2_with fail
        refine (alone_any _ _ _ _ _ _ _ _ _).mono ?_
        rintro e w1 ⟨rfl, c1⟩
        rw [unhide HAL]
        obtain ⟨d1, -⟩ := bcell c1
        go_wp2_with fail
        refine (is_any m s _).mono ?_
        rintro e w2 ⟨rfl, c2⟩
        go_wp2_with fail
        go_ret
        exact ⟨rfl, bstep b0 (bstep c1 c2)⟩
      by_cases k3 : k = 3
      · subst k3
        clear k0 k1 k2
        go_enter Try.func31, Try.ntmps31
        go_wp2_with fail
        refine (alone_any _ _ _ _ _ _ _ _ _).mono ?_
        rintro e w1 ⟨rfl, c1⟩
        rw [unhide HAL]
        obtain ⟨d1, -⟩ := bcell c1
        go_wp2_with fail
        refine (text_any t _ (unhide ht')).mono ?_
        rintro e w2 ⟨rfl, rfl⟩
        go_wp2_with fail
        go_ret
        exact ⟨rfl, bstep b0 c1⟩
      by_cases k4 : k = 4
      · subst k4
        clear k0 k1 k2 k3
        rw [if_neg (by omega), if_neg (by omega), if_neg (by omega), if_pos rfl]
        go_enter Try.func31, Try.ntmps31
        go_wp2_with fail
        refine (alone_any _ _ _ _ _ _ _ _ _).mono ?_
        rintro e w1 ⟨rfl, c1⟩
        rw [unhide HAL]
        obtain ⟨d1, -⟩ := bcell c1
        go_wp2_with fail
        refine (list_any _ _ _ _ _ _ _ _ _ ih n _ hn (hin.below (bstep b0 c1))).mono ?_
        rintro e w2 ⟨rfl, c2⟩
        go_wp2_with fail
        go_ret
        exact ⟨ret_bool (by simp), bstep b0 (bstep c1 c2)⟩
      · rw [if_neg (by omega), if_neg k2, if_neg k3, if_neg k4]
        have e0 : (k == 0) = false := by simpa using k0
        have e1 : (k == 1) = false := by simpa using k1
        have e2 : (k == 2) = false := by simpa using k2
        have e3 : (k == 3) = false := by simpa using k3
        have e4 : (k == 4) = false := by simpa using k4
        clear k0 k1 k2 k3 k4
        go_enter Try.func31, Try.ntmps31
        go_wp2_with fail
        refine (alone_any _ _ _ _ _ _ _ _ _).mono ?_
        rintro e w1 ⟨rfl, c1⟩
        rw [unhide HAL]
        obtain ⟨d1, -⟩ := bcell c1
        go_wp2_with fail
        go_ret
        exact ⟨rfl, bstep b0 c1⟩

set_option maxHeartbeats 400000 in
theorem vis_any (x : VT) (w : World) (hin : x.In w) :
    Calls Try.prog 20 #[x.val] w fun e w' => e = .returned (.bool (x.okB 2)) ∧ Below w.heap.size w w' := by
  cases x with
  | none => exact absurd hin (by simp [VT.In])
  | mk k b m s t a len cap kid =>
    have b0 := below1 w (Obj.cells #[.int .i64 k, .bool b, .int .i64 m, .int .i64 s, .string t, .slice a len cap] 26)
    have H := hide (fits_any _ 2 _ (by omega) (hin.below b0))
    show Calls Try.prog 20 #[.agg #[.int .i64 k, .bool b, .int .i64 m, .int .i64 s, .string t, .slice a len cap]] w _
    go_enter Try.func20, Try.ntmps20
    go_wp2_with fail
    refine (unhide H).mono ?_
    rintro e w1 ⟨rfl, k1⟩
    go_wp2_with fail
    go_ret
    exact ⟨rfl, bstep b0 k1⟩
end Go.Proofs.Ythccmlkcdinfdac

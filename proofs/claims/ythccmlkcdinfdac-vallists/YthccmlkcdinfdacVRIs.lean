/- The contract of the document's own Is of values. -/
import Derived.Test.YthccmlkcdinfdacVText
import Derived.Test.YthccmlkcdinfdacRIs
import Derived.Test.YthccmlkcdinfdacVRIsNo
namespace Go.Proofs.Ythccmlkcdinfdac
open Go.RowKit

theorem okB_no {k : Int} {b : Bool} {m s : Int} {t : ByteArray} {a : Option Addr} {len cap : Nat} {kid : Nat → VT} (n : Nat) (h : aloneB k b m s t len = false) : (VT.mk k b m s t a len cap kid).okB n = false := by
  simp only [VT.okB, h, Bool.false_and]
theorem okB_yes {k : Int} {b : Bool} {m s : Int} {t : ByteArray} {a : Option Addr} {len cap : Nat} {kid : Nat → VT} (n : Nat) (h : aloneB k b m s t len = true) : (VT.mk k b m s t a len cap kid).okB n =
      (if k = 0 ∨ k = 1 then true else if k = 2 then isB m s else if k = 3 then textB t else if k = 4 then decide (n ≠ 0) && (decide (len ≤ 8) && (List.range len).all fun i => (kid i).okB (n - 1)) else false) := by
  simp only [VT.okB, h, Bool.true_and]

set_option maxHeartbeats 2000000 in
theorem ris2_any (x : VT) : ∀ (q : Nat) (w : World), q ≤ 2 → x.In w →
    Calls Try.prog 30 #[x.val, .int .i64 q] w fun e w' => e = .returned (.bool (x.okB (2 - q))) ∧ Below w.heap.size w w' := by
  induction x with
  | none => intro q w _ h; exact absurd h (by simp [VT.In])
  | mk k b m s t a len cap kid ih =>
    intro q w hq hin
    obtain ⟨wk, wm, ws, ht, hlc, hcm⟩ := hin.1
    have hlm : len ≤ maxLen := by omega
    have ht' := hide ht
    unfold maxLen at ht hcm hlm
    show Calls Try.prog 30 #[.agg #[.int .i64 k, .bool b, .int .i64 m, .int .i64 s, .string t, .slice a len cap], .int .i64 q] w _
    clear wk wm ws
    cases hal : aloneB k b m s t len
    · rw [okB_no _ hal]
      exact ris_no k b m s t a len cap q w hal
    · rw [okB_yes _ hal]
      obtain ⟨a1, a2, a3, a4⟩ := alone_t hal
      have hal := hide hal
      by_cases k0 : k = 0
      · subst k0
        have a1 := a1 (by omega); have a2 := a2 (by omega); have a3 := a3 (by omega); have a4 := a4 (by omega)
        obtain ⟨rfl, rfl⟩ := a2
        subst a1 a4
        go_enter Try.func30, Try.ntmps30
        go_wp2_with fail
        go_ret
        exact ⟨rfl, below1 _ _⟩
      by_cases k1 : k = 1
      · subst k1
        have a2 := a2 (by omega); have a3 := a3 (by omega); have a4 := a4 (by omega)
        obtain ⟨rfl, rfl⟩ := a2
        subst a4
        clear a1
        go_enter Try.func30, Try.ntmps30
        go_wp2_with fail
        go_ret
        exact ⟨rfl, below1 _ _⟩
      by_cases k2 : k = 2
      · subst k2
        have a1 := a1 (by omega); have a3 := a3 (by omega); have a4 := a4 (by omega)
        subst a1 a4
        clear a2 k0 k1
        go_enter Try.func30, Try.ntmps30
        go_wp2_with fail
        refine (ris_any m s _).mono ?_
        rintro e w1 ⟨rfl, k1⟩
        go_wp2_with fail
        go_ret
        exact ⟨rfl, bstep (below1 _ _) k1⟩
      by_cases k3 : k = 3
      · subst k3
        have a1 := a1 (by omega); have a2 := a2 (by omega); have a4 := a4 (by omega)
        obtain ⟨rfl, rfl⟩ := a2
        subst a1 a4
        clear a3 k0 k1 k2
        go_enter Try.func30, Try.ntmps30
        go_wp2_with fail
        refine (rtext_any t _ (unhide ht')).mono ?_
        rintro e w1 ⟨rfl, rfl⟩
        go_wp2_with fail
        go_ret
        exact ⟨rfl, below1 _ _⟩
      by_cases k4 : k = 4
      · subst k4
        have a1 := a1 (by omega); have a2 := a2 (by omega); have a3 := a3 (by omega)
        obtain ⟨rfl, rfl⟩ := a2
        subst a1
        clear a4 k0 k1 k2 k3
        rw [if_neg (by omega), if_neg (by omega), if_neg (by omega), if_pos rfl]
        by_cases hq2 : q = 2
        · subst hq2
          go_enter Try.func30, Try.ntmps30
          go_wp2_with fail
          go_ret
          exact ⟨rfl, below1 _ _⟩
        have hq1 : q < 2 := by omega
        have e2 : decide (2 - q ≠ 0) = true := by simp; omega
        rw [e2, Bool.true_and]
        clear e2 hq2 hq
        by_cases h8 : len ≤ 8
        · rw [decide_eq_true h8, Bool.true_and]
          go_enter Try.func30, Try.ntmps30
          go_wp2_with fail
          have b0 := below1 w (Obj.cells #[.int .i64 4, .bool false, .int .i64 0, .int .i64 0, .string t, .slice a len cap] 26)
          have hin1 := hin.below b0
          have hz : (w.alloc (Obj.cells #[.int .i64 4, .bool false, .int .i64 0, .int .i64 0, .string t, .slice a len cap] 26)).heap.size = w.heap.size + 1 := by simp
          have hbox : (w.alloc (Obj.cells #[.int .i64 4, .bool false, .int .i64 0, .int .i64 0, .string t, .slice a len cap] 26)).cell? ⟨w.heap.size, 5, none⟩ = some (.slice a len cap) := by go_simp
          generalize hW : w.alloc (Obj.cells #[.int .i64 4, .bool false, .int .i64 0, .int .i64 0, .string t, .slice a len cap] 26) = W at *
          clear hW
          go_loopw [5] (fun i wr => ∃ (j : Nat), j ≤ len ∧ i = .int .i64 j ∧ Hid (∀ i, i < j → (kid i).okB (2 - (q + 1)) = true) ∧ Below W.heap.size W wr) (fun i _ => len - (intOf i).toNat)
          case atStart => exact ⟨0, Nat.zero_le _, rfl, hide (fun i hi => absurd hi (Nat.not_lt_zero _)), Below.refl _ _⟩
          case round =>
            obtain ⟨j, hj, rfl, HA, bel⟩ := hrel
            have hb := (bcell bel).1 w.heap.size 5 (by omega)
            rw [hbox] at hb
            by_cases hlt : j < len
            · obtain ⟨bl, o, k', b', m', s', t', a', len', cap', kid', rfl, hx, six, hk⟩ := hin1.kid hlt
              have ihj := ih j (q + 1) wr (by omega)
              rw [hx] at ihj
              have ihj := ihj (hk.below bel)
              obtain ⟨s0, s1, s2, s3, s4, s5, s6⟩ := six.below bel
              clear six hk ih hin hin1
              have IH := hide ihj
              clear ihj
              cases hok : (kid j).okB (2 - (q + 1))
              · have FIN := hide (all_range_no (n := len) (f := fun i => (kid i).okB (2 - q - 1)) hlt (by show (kid j).okB (2 - q - 1) = false; rw [Nat.sub_sub]; exact hok))
                rw [hx] at hok
                have HX := hide hx
                have HOK := hide hok
                clear hx hok
                go_wp2_with fail
                refine (unhide IH).mono ?_
                rintro e w2 ⟨rfl, k2⟩
                rw [unhide HOK]
                go_wp2_with fail
                go_ret
                exact ⟨ret_bool (unhide FIN).symm, bstep b0 (bstep bel k2)⟩
              · have HN := hide hok
                rw [hx] at hok
                have HX := hide hx
                have HOK := hide hok
                clear hx hok
                go_wp2_with fail
                refine (unhide IH).mono ?_
                rintro e w2 ⟨rfl, k2⟩
                rw [unhide HOK]
                go_wp2_with fail
                go_roundw
                case rel =>
                  refine ⟨j + 1, by omega, by go_num, hide (fun i hi => ?_), bstep bel k2⟩
                  by_cases hij : i = j
                  · subst hij; exact unhide HN
                  · exact unhide HA i (by omega)
                case measure => simp [intOf]; omega
            · have FIN := hide (all_range (n := len) (f := fun i => (kid i).okB (2 - q - 1)) (fun i hi => by show (kid i).okB (2 - q - 1) = true; rw [Nat.sub_sub]; exact unhide HA i (by omega)))
              go_wp2_with fail
              go_ret
              exact ⟨ret_bool (unhide FIN).symm, bstep b0 bel⟩
        · rw [decide_eq_false h8, Bool.false_and]
          go_enter Try.func30, Try.ntmps30
          go_wp2_with fail
          go_ret
          exact ⟨rfl, below1 _ _⟩
      · have a1 := a1 k1; have a2 := a2 k2; have a3 := a3 k3; have a4 := a4 k4
        obtain ⟨rfl, rfl⟩ := a2
        subst a1 a4
        rw [if_neg (by omega), if_neg k2, if_neg k3, if_neg k4]
        have e0 : (k == 0) = false := by simpa using k0
        have e1 : (k == 1) = false := by simpa using k1
        have e2 : (k == 2) = false := by simpa using k2
        have e3 : (k == 3) = false := by simpa using k3
        have e4 : (k == 4) = false := by simpa using k4
        have n1 : (k != 1) = true := by simpa using k1
        have n2 : (k != 2) = true := by simpa using k2
        have n3 : (k != 3) = true := by simpa using k3
        have n4 : (k != 4) = true := by simpa using k4
        clear k0 k1 k2 k3 k4
        go_enter Try.func30, Try.ntmps30
        go_wp2_with fail
        go_ret
        exact ⟨rfl, below1 _ _⟩

set_option maxHeartbeats 400000 in
theorem rIs_any (x : VT) (w : World) (hin : x.In w) :
    Calls Try.prog 19 #[x.val] w fun e w' => e = .returned (.bool (x.okB 2)) ∧ Below w.heap.size w w' := by
  cases x with
  | none => exact absurd hin (by simp [VT.In])
  | mk k b m s t a len cap kid =>
    have b0 := below1 w (Obj.cells #[.int .i64 k, .bool b, .int .i64 m, .int .i64 s, .string t, .slice a len cap] 26)
    have H := hide (ris2_any _ 0 _ (by omega) (hin.below b0))
    show Calls Try.prog 19 #[.agg #[.int .i64 k, .bool b, .int .i64 m, .int .i64 s, .string t, .slice a len cap]] w _
    go_enter Try.func19, Try.ntmps19
    go_wp2_with fail
    refine (unhide H).mono ?_
    rintro e w1 ⟨rfl, k1⟩
    go_wp2_with fail
    go_ret
    exact ⟨rfl, bstep b0 k1⟩
end Go.Proofs.Ythccmlkcdinfdac

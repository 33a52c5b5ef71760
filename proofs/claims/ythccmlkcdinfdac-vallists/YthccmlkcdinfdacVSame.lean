/- The contract of SameVal: field by field. -/
import Derived.Test.YthccmlkcdinfdacVMath
import Derived.Test.YthccmlkcdinfdacKeep
import Derived.Deep.RegionHeld3
import Derived.Deep.DrawnRows
namespace Go.Proofs.Ythccmlkcdinfdac
open Go.RowKit
attribute [local go_sem ↓] Go.wp_at_zero Go.wp_at_succ

def VT.same : VT → VT → Bool
  | .mk k b m s t _ len _ kid, .mk k' b' m' s' t' _ len' _ kid' => decide (k = k') && (decide (b = b') && (decide (m = m') && (decide (s = s') && (decide (t = t') && (decide (len = len') && (List.range len).all fun i => (kid i).same (kid' i))))))
  | _, _ => false

set_option maxHeartbeats 2000000 in
theorem same_any (x : VT) : ∀ (y : VT) (w : World), x.In w → y.In w →
    Calls Try.prog 10 #[x.val, y.val] w fun e w' => e = .returned (.bool (x.same y)) ∧ Below w.heap.size w w' := by
  induction x with
  | none => intro y w h; exact absurd h (by simp [VT.In])
  | mk k b m s t a len cap kid ih =>
    intro y w hin hin'
    cases y with
    | none => exact absurd hin' (by simp [VT.In])
    | mk k' b' m' s' t' a' len' cap' kid' =>
      obtain ⟨wk, wm, ws, ht, hlc, hcm⟩ := hin.1
      have hlm : len ≤ maxLen := by omega
      unfold maxLen at hlm
      clear wk wm ws ht hlc hcm
      show Calls Try.prog 10 #[.agg #[.int .i64 k, .bool b, .int .i64 m, .int .i64 s, .string t, .slice a len cap], .agg #[.int .i64 k', .bool b', .int .i64 m', .int .i64 s', .string t', .slice a' len' cap']] w _
      unfold VT.same
      by_cases hk : k = k'
      · subst hk
        by_cases hb : b = b'
        · subst hb
          by_cases hm : m = m'
          · subst hm
            by_cases hs : s = s'
            · subst hs
              by_cases ht : t.toList = t'.toList
              · obtain rfl := bytes_ext ht
                clear ht
                by_cases hl : len = len'
                · subst hl
                  simp only [decide_true, Bool.true_and]
                  go_enter Try.func10, Try.ntmps10
                  go_wp2_with fail
                  have b0 := below2 w (Obj.cells #[.int .i64 k, .bool b, .int .i64 m, .int .i64 s, .string t, .slice a len cap] 26) (Obj.cells #[.int .i64 k, .bool b, .int .i64 m, .int .i64 s, .string t, .slice a' len cap'] 26)
                  have hin1 := hin.below b0
                  have hin1' := hin'.below b0
                  have hz : w.heap.size + 1 < ((w.alloc (Obj.cells #[.int .i64 k, .bool b, .int .i64 m, .int .i64 s, .string t, .slice a len cap] 26)).alloc (Obj.cells #[.int .i64 k, .bool b, .int .i64 m, .int .i64 s, .string t, .slice a' len cap'] 26)).heap.size := by simp
                  have hbox : ((w.alloc (Obj.cells #[.int .i64 k, .bool b, .int .i64 m, .int .i64 s, .string t, .slice a len cap] 26)).alloc (Obj.cells #[.int .i64 k, .bool b, .int .i64 m, .int .i64 s, .string t, .slice a' len cap'] 26)).cell? ⟨w.heap.size, 5, none⟩ = some (.slice a len cap) := by go_simp
                  have hbox' : ((w.alloc (Obj.cells #[.int .i64 k, .bool b, .int .i64 m, .int .i64 s, .string t, .slice a len cap] 26)).alloc (Obj.cells #[.int .i64 k, .bool b, .int .i64 m, .int .i64 s, .string t, .slice a' len cap'] 26)).cell? ⟨w.heap.size + 1, 5, none⟩ = some (.slice a' len cap') := by go_simp
                  generalize hW : ((w.alloc (Obj.cells #[.int .i64 k, .bool b, .int .i64 m, .int .i64 s, .string t, .slice a len cap] 26)).alloc (Obj.cells #[.int .i64 k, .bool b, .int .i64 m, .int .i64 s, .string t, .slice a' len cap'] 26)) = W at *
                  clear hW hin hin'
                  have B0 := hide b0
                  clear b0
                  generalize hB : w.heap.size = B at *
                  have HB := hide hB
                  clear hB
                  go_loopw [5] (fun i wr => ∃ (j : Nat), j ≤ len ∧ i = .int .i64 j ∧ Hid (∀ i, i < j → (kid i).same (kid' i) = true) ∧ Below W.heap.size W wr) (fun i _ => len - (intOf i).toNat)
                  case atStart => exact ⟨0, Nat.zero_le _, rfl, hide (fun i hi => absurd hi (Nat.not_lt_zero _)), Below.refl _ _⟩
                  case round =>
                    obtain ⟨j, hj, rfl, HA, bel⟩ := hrel
                    have zz := bel.size
                    have hb := ((bcell bel).1 B 5 (by omega)).trans hbox
                    have hb' := ((bcell bel).1 (B + 1) 5 (by omega)).trans hbox'
                    by_cases hlt : j < len
                    · obtain ⟨bl, o, kp, bp, mp, sp, tp, ap, lenp, capp, kidp, rfl, hx, six, hk⟩ := hin1.kid hlt
                      obtain ⟨bl', o', kq, bq, mq, sq, tq, aq, lenq, capq, kidq, rfl, hy, six', hk'⟩ := hin1'.kid hlt
                      have ihj := ih j (kid' j)
                      rw [hx, hy] at ihj
                      obtain ⟨s0, s1, s2, s3, s4, s5, s6⟩ := six.below bel
                      obtain ⟨r0, r1, r2, r3, r4, r5, r6⟩ := six'.below bel
                      have HK := hide (hk.below bel)
                      have HK' := hide (hk'.below bel)
                      have IH := hide ihj
                      have HX := hide hx
                      have HY := hide hy
                      clear six six' hk hk' ih ihj hin1 hin1' hx hy
                      have S0 : Hid (Below wr.heap.size wr wr.drew ∧ wr.drew.cell? ⟨B, 5, none⟩ = some (.slice (some ⟨bl, o, none⟩) len cap) ∧ wr.drew.cell? ⟨B + 1, 5, none⟩ = some (.slice (some ⟨bl', o', none⟩) len cap') ∧ wr.drew.cell? ⟨bl, o + j * 6, none⟩ = some (.int .i64 kp) ∧ wr.drew.cell? ⟨bl, o + j * 6 + 1, none⟩ = some (.bool bp) ∧ wr.drew.cell? ⟨bl, o + j * 6 + 2, none⟩ = some (.int .i64 mp) ∧ wr.drew.cell? ⟨bl, o + j * 6 + 3, none⟩ = some (.int .i64 sp) ∧ wr.drew.cell? ⟨bl, o + j * 6 + 4, none⟩ = some (.string tp) ∧ wr.drew.cell? ⟨bl, o + j * 6 + 5, none⟩ = some (.slice ap lenp capp) ∧ wr.drew.cell? ⟨bl', o' + j * 6, none⟩ = some (.int .i64 kq) ∧ wr.drew.cell? ⟨bl', o' + j * 6 + 1, none⟩ = some (.bool bq) ∧ wr.drew.cell? ⟨bl', o' + j * 6 + 2, none⟩ = some (.int .i64 mq) ∧ wr.drew.cell? ⟨bl', o' + j * 6 + 3, none⟩ = some (.int .i64 sq) ∧ wr.drew.cell? ⟨bl', o' + j * 6 + 4, none⟩ = some (.string tq) ∧ wr.drew.cell? ⟨bl', o' + j * 6 + 5, none⟩ = some (.slice aq lenq capq)) := ⟨(Below.refl _ _).drew, hb, hb', s1, s2, s3, s4, s5, s6, r1, r2, r3, r4, r5, r6⟩
                      have SK : Hid (∀ x w', (Below wr.heap.size wr x ∧ x.cell? ⟨B, 5, none⟩ = some (.slice (some ⟨bl, o, none⟩) len cap) ∧ x.cell? ⟨B + 1, 5, none⟩ = some (.slice (some ⟨bl', o', none⟩) len cap') ∧ x.cell? ⟨bl, o + j * 6, none⟩ = some (.int .i64 kp) ∧ x.cell? ⟨bl, o + j * 6 + 1, none⟩ = some (.bool bp) ∧ x.cell? ⟨bl, o + j * 6 + 2, none⟩ = some (.int .i64 mp) ∧ x.cell? ⟨bl, o + j * 6 + 3, none⟩ = some (.int .i64 sp) ∧ x.cell? ⟨bl, o + j * 6 + 4, none⟩ = some (.string tp) ∧ x.cell? ⟨bl, o + j * 6 + 5, none⟩ = some (.slice ap lenp capp) ∧ x.cell? ⟨bl', o' + j * 6, none⟩ = some (.int .i64 kq) ∧ x.cell? ⟨bl', o' + j * 6 + 1, none⟩ = some (.bool bq) ∧ x.cell? ⟨bl', o' + j * 6 + 2, none⟩ = some (.int .i64 mq) ∧ x.cell? ⟨bl', o' + j * 6 + 3, none⟩ = some (.int .i64 sq) ∧ x.cell? ⟨bl', o' + j * 6 + 4, none⟩ = some (.string tq) ∧ x.cell? ⟨bl', o' + j * 6 + 5, none⟩ = some (.slice aq lenq capq)) → Below x.heap.size x w' → (Below wr.heap.size wr w' ∧ w'.cell? ⟨B, 5, none⟩ = some (.slice (some ⟨bl, o, none⟩) len cap) ∧ w'.cell? ⟨B + 1, 5, none⟩ = some (.slice (some ⟨bl', o', none⟩) len cap') ∧ w'.cell? ⟨bl, o + j * 6, none⟩ = some (.int .i64 kp) ∧ w'.cell? ⟨bl, o + j * 6 + 1, none⟩ = some (.bool bp) ∧ w'.cell? ⟨bl, o + j * 6 + 2, none⟩ = some (.int .i64 mp) ∧ w'.cell? ⟨bl, o + j * 6 + 3, none⟩ = some (.int .i64 sp) ∧ w'.cell? ⟨bl, o + j * 6 + 4, none⟩ = some (.string tp) ∧ w'.cell? ⟨bl, o + j * 6 + 5, none⟩ = some (.slice ap lenp capp) ∧ w'.cell? ⟨bl', o' + j * 6, none⟩ = some (.int .i64 kq) ∧ w'.cell? ⟨bl', o' + j * 6 + 1, none⟩ = some (.bool bq) ∧ w'.cell? ⟨bl', o' + j * 6 + 2, none⟩ = some (.int .i64 mq) ∧ w'.cell? ⟨bl', o' + j * 6 + 3, none⟩ = some (.int .i64 sq) ∧ w'.cell? ⟨bl', o' + j * 6 + 4, none⟩ = some (.string tq) ∧ w'.cell? ⟨bl', o' + j * 6 + 5, none⟩ = some (.slice aq lenq capq))) := by
                        rintro x w' ⟨h0, h1, h2, h3, h4, h5, h6, h7, h8, h9, h10, h11, h12, h13, h14⟩ kk
                        have z0 := h0.size
                        exact ⟨bstep h0 kk, kcell kk (by omega) h1, kcell kk (by omega) h2, kcell kk (by omega) h3, kcell kk (by omega) h4, kcell kk (by omega) h5, kcell kk (by omega) h6, kcell kk (by omega) h7, kcell kk (by omega) h8, kcell kk (by omega) h9, kcell kk (by omega) h10, kcell kk (by omega) h11, kcell kk (by omega) h12, kcell kk (by omega) h13, kcell kk (by omega) h14⟩
                      cases hok : (kid j).same (kid' j)
                      · have FIN := hide (all_range_no (n := len) (f := fun i => (kid i).same (kid' i)) hlt hok)
                        rw [unhide HX, unhide HY] at hok
                        have HOK := hide hok
                        clear hok
                        go_wp2_with fail
                        go_region_held3 (fun w' => Below wr.heap.size wr w' ∧ w'.cell? ⟨B, 5, none⟩ = some (.slice (some ⟨bl, o, none⟩) len cap) ∧ w'.cell? ⟨B + 1, 5, none⟩ = some (.slice (some ⟨bl', o', none⟩) len cap') ∧ w'.cell? ⟨bl, o + j * 6, none⟩ = some (.int .i64 kp) ∧ w'.cell? ⟨bl, o + j * 6 + 1, none⟩ = some (.bool bp) ∧ w'.cell? ⟨bl, o + j * 6 + 2, none⟩ = some (.int .i64 mp) ∧ w'.cell? ⟨bl, o + j * 6 + 3, none⟩ = some (.int .i64 sp) ∧ w'.cell? ⟨bl, o + j * 6 + 4, none⟩ = some (.string tp) ∧ w'.cell? ⟨bl, o + j * 6 + 5, none⟩ = some (.slice ap lenp capp) ∧ w'.cell? ⟨bl', o' + j * 6, none⟩ = some (.int .i64 kq) ∧ w'.cell? ⟨bl', o' + j * 6 + 1, none⟩ = some (.bool bq) ∧ w'.cell? ⟨bl', o' + j * 6 + 2, none⟩ = some (.int .i64 mq) ∧ w'.cell? ⟨bl', o' + j * 6 + 3, none⟩ = some (.int .i64 sq) ∧ w'.cell? ⟨bl', o' + j * 6 + 4, none⟩ = some (.string tq) ∧ w'.cell? ⟨bl', o' + j * 6 + 5, none⟩ = some (.slice aq lenq capq))
                          (first | exact unhide S0 | assumption | exact unhide SK _ _ (by assumption) k4)
                          ((go_at_call 10; refine (unhide IH _ ?_ ?_).mono ?_; exact (unhide HK).below (And.left (by assumption)); exact (unhide HK').below (And.left (by assumption)); rintro e w4 ⟨rfl, k4⟩; rw [unhide HOK]))
                        all_goals
                          go_wp2_with fail
                          go_ret
                          refine ⟨ret_bool (unhide FIN).symm, ?_⟩
                          have b := unhide B0
                          rw [← unhide HB] at b
                          exact bstep b (bstep bel (And.left (by assumption)))
                      · have HN := hide hok
                        rw [unhide HX, unhide HY] at hok
                        have HOK := hide hok
                        clear hok
                        go_wp2_with fail
                        go_region_held3 (fun w' => Below wr.heap.size wr w' ∧ w'.cell? ⟨B, 5, none⟩ = some (.slice (some ⟨bl, o, none⟩) len cap) ∧ w'.cell? ⟨B + 1, 5, none⟩ = some (.slice (some ⟨bl', o', none⟩) len cap') ∧ w'.cell? ⟨bl, o + j * 6, none⟩ = some (.int .i64 kp) ∧ w'.cell? ⟨bl, o + j * 6 + 1, none⟩ = some (.bool bp) ∧ w'.cell? ⟨bl, o + j * 6 + 2, none⟩ = some (.int .i64 mp) ∧ w'.cell? ⟨bl, o + j * 6 + 3, none⟩ = some (.int .i64 sp) ∧ w'.cell? ⟨bl, o + j * 6 + 4, none⟩ = some (.string tp) ∧ w'.cell? ⟨bl, o + j * 6 + 5, none⟩ = some (.slice ap lenp capp) ∧ w'.cell? ⟨bl', o' + j * 6, none⟩ = some (.int .i64 kq) ∧ w'.cell? ⟨bl', o' + j * 6 + 1, none⟩ = some (.bool bq) ∧ w'.cell? ⟨bl', o' + j * 6 + 2, none⟩ = some (.int .i64 mq) ∧ w'.cell? ⟨bl', o' + j * 6 + 3, none⟩ = some (.int .i64 sq) ∧ w'.cell? ⟨bl', o' + j * 6 + 4, none⟩ = some (.string tq) ∧ w'.cell? ⟨bl', o' + j * 6 + 5, none⟩ = some (.slice aq lenq capq))
                          (first | exact unhide S0 | assumption | exact unhide SK _ _ (by assumption) k4)
                          ((go_at_call 10; refine (unhide IH _ ?_ ?_).mono ?_; exact (unhide HK).below (And.left (by assumption)); exact (unhide HK').below (And.left (by assumption)); rintro e w4 ⟨rfl, k4⟩; rw [unhide HOK]))
                        all_goals
                          go_wp2_with fail
                          go_roundw
                          case rel =>
                            refine ⟨j + 1, by omega, by go_num, hide (fun i hi => ?_), bstep bel (And.left (by assumption))⟩
                            by_cases hij : i = j
                            · subst hij; exact unhide HN
                            · exact unhide HA i (by omega)
                          case measure => simp [intOf]; omega
                    · have FIN := hide (all_range (n := len) (f := fun i => (kid i).same (kid' i)) (fun i hi => unhide HA i (by omega)))
                      go_wp2_with fail
                      go_ret
                      refine ⟨ret_bool (unhide FIN).symm, ?_⟩
                      have b := unhide B0
                      rw [← unhide HB] at b
                      exact bstep b bel
                · have hl' := hide hl
                  clear ih hin hin'
                  have e1 : ((len : Int) != len') = true := by simp; omega
                  clear hl
                  go_enter Try.func10, Try.ntmps10
                  go_wp2_with fail
                  go_ret
                  exact ⟨ret_bool (by have := unhide hl'; simp [this]), below2 _ _ _⟩
              · have ht' := hide ht
                clear ih hin hin'
                go_enter Try.func10, Try.ntmps10
                go_wp2_with fail
                go_ret
                exact ⟨ret_bool (by simp [show ¬ t = t' from fun e => unhide ht' (by rw [e])]), below2 _ _ _⟩
            · have hs' := hide hs
              clear ih hin hin'
              go_enter Try.func10, Try.ntmps10
              go_wp2_with fail
              go_ret
              exact ⟨ret_bool (by have := unhide hs'; simp [this]), below2 _ _ _⟩
          · have hm' := hide hm
            clear ih hin hin'
            go_enter Try.func10, Try.ntmps10
            go_wp2_with fail
            go_ret
            exact ⟨ret_bool (by have := unhide hm'; simp [this]), below2 _ _ _⟩
        · have hb' := hide hb
          clear ih hin hin'
          have e1 : (b != b') = true := by simpa using hb
          go_enter Try.func10, Try.ntmps10
          go_wp2_with fail
          go_ret
          exact ⟨ret_bool (by have := unhide hb'; simp [this]), below2 _ _ _⟩
      · have hk' := hide hk
        clear ih hin hin'
        have e1 : (k != k') = true := by simpa using hk
        clear hk
        go_enter Try.func10, Try.ntmps10
        go_wp2_with fail
        go_ret
        exact ⟨ret_bool (by have := unhide hk'; simp [this]), below2 _ _ _⟩
end Go.Proofs.Ythccmlkcdinfdac

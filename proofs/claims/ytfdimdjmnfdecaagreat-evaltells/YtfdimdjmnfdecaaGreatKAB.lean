/- VSame Math2 Math3 Math4 Math5 Math6 VCmpMath VOwn VFresh VBare VLogMath: laid together. -/
import Derived.Test.YtfdimdjmnfdecaaGreatKAA
import Derived.Deep.RegionHeld3
import Derived.Deep.DrawnRows
import GoSem.Claim
import Derived.Lib.Bytealg
import Derived.Deep.OwnRows
set_option linter.unusedVariables false
set_option linter.unusedSimpArgs false
set_option maxHeartbeats 8000000
namespace Go.Proofs.YtfdimdjmnfdecaaGreat
open Go.RowKit
section
attribute [local go_sem ↓] Go.wp_at_zero Go.wp_at_succ
def VT.same : VT → VT → Bool
 | .mk k b m s t _ len _ kid, .mk k' b' m' s' t' _ len' _ kid' => decide (k = k') && (decide (b = b') && (decide (m = m') && (decide (s = s') && (decide (t = t') && (decide (len = len') && (List.range len).all fun i => (kid i).same (kid' i))))))
 | _, _ => false
theorem same_any (x : VT) : ∀ (y : VT) (w : World), x.In w → y.In w →
  Calls Tryz.prog 13 #[x.val, y.val] w fun e w' => e = .returned (.bool (x.same y)) ∧ Below w.heap.size w w' := by
 induction x with
 | none => intro y w h; exact absurd h (by simp [VT.In])
 | mk k b m s t a len cap kid ih =>
  intro y w hin hin'
  cases y with
  | none => exact absurd hin' (by simp [VT.In])
  | mk k' b' m' s' t' a' len' cap' kid' =>
   obtain ⟨wk, wm, ws, ht, hlc, hcm⟩ := hin.1
   have hlm : len ≤ maxLen := by omega
   unfold maxLen at hlm
   clear wk wm ws ht hlc hcm
   show Calls Tryz.prog 13 #[.agg #[.int .i64 k, .bool b, .int .i64 m, .int .i64 s, .string t, .slice a len cap], .agg #[.int .i64 k', .bool b', .int .i64 m', .int .i64 s', .string t', .slice a' len' cap']] w _
   unfold VT.same
   by_cases hk : k = k'
   ·subst hk
    by_cases hb : b = b'
    ·subst hb
     by_cases hm : m = m'
     ·subst hm
      by_cases hs : s = s'
      ·subst hs
       by_cases ht : t.toList = t'.toList
       ·obtain rfl := bytes_ext ht
        clear ht
        by_cases hl : len = len'
        ·subst hl
         simp only [decide_true, Bool.true_and]
         go_enter Tryz.func13, Tryz.ntmps13
         go_wp2_with fail
         have b0 := below2 w (Obj.cells #[.int .i64 k, .bool b, .int .i64 m, .int .i64 s, .string t, .slice a len cap] 32) (Obj.cells #[.int .i64 k, .bool b, .int .i64 m, .int .i64 s, .string t, .slice a' len cap'] 32)
         have hin1 := hin.below b0
         have hin1' := hin'.below b0
         have hz : w.heap.size + 1 < ((w.alloc (Obj.cells #[.int .i64 k, .bool b, .int .i64 m, .int .i64 s, .string t, .slice a len cap] 32)).alloc (Obj.cells #[.int .i64 k, .bool b, .int .i64 m, .int .i64 s, .string t, .slice a' len cap'] 32)).heap.size := by simp
         have hbox : ((w.alloc (Obj.cells #[.int .i64 k, .bool b, .int .i64 m, .int .i64 s, .string t, .slice a len cap] 32)).alloc (Obj.cells #[.int .i64 k, .bool b, .int .i64 m, .int .i64 s, .string t, .slice a' len cap'] 32)).cell? ⟨w.heap.size, 5, none⟩ = some (.slice a len cap) := by go_simp
         have hbox' : ((w.alloc (Obj.cells #[.int .i64 k, .bool b, .int .i64 m, .int .i64 s, .string t, .slice a len cap] 32)).alloc (Obj.cells #[.int .i64 k, .bool b, .int .i64 m, .int .i64 s, .string t, .slice a' len cap'] 32)).cell? ⟨w.heap.size + 1, 5, none⟩ = some (.slice a' len cap') := by go_simp
         generalize hW : ((w.alloc (Obj.cells #[.int .i64 k, .bool b, .int .i64 m, .int .i64 s, .string t, .slice a len cap] 32)).alloc (Obj.cells #[.int .i64 k, .bool b, .int .i64 m, .int .i64 s, .string t, .slice a' len cap'] 32)) = W at *
         clear hW hin hin'
         have B0 := hide b0
         clear b0
         generalize hB : w.heap.size = B at *
         have HB := hide hB
         clear hB
         go_loopw [5] (fun i wr => ∃ (j : Nat), j ≤ len ∧ i = .int .i64 j ∧ Hid (∀ i, i < j → (kid i).same (kid' i) = true) ∧ Below W.heap.size W wr) (fun i _ => len - (intOf i).toNat)
         case atStart => exact ⟨0, Nat.zero_le _, rfl, hide (fun i hi => absurd hi (Nat.not_lt_zero _)), Below.refl _ _⟩
         case round =>
          obtain ⟨j, hj, rfl, HA, bel⟩ := hrel
          have zz := bel.size
          have hb := ((bcell bel).1 B 5 (by omega)).trans hbox
          have hb' := ((bcell bel).1 (B + 1) 5 (by omega)).trans hbox'
          by_cases hlt : j < len
          ·obtain ⟨bl, o, kp, bp, mp, sp, tp, ap, lenp, capp, kidp, rfl, hx, six, hk⟩ := hin1.kid hlt
           obtain ⟨bl', o', kq, bq, mq, sq, tq, aq, lenq, capq, kidq, rfl, hy, six', hk'⟩ := hin1'.kid hlt
           have ihj := ih j (kid' j)
           rw [hx, hy] at ihj
           obtain ⟨s0, s1, s2, s3, s4, s5, s6⟩ := six.below bel
           obtain ⟨r0, r1, r2, r3, r4, r5, r6⟩ := six'.below bel
           have HK := hide (hk.below bel)
           have HK' := hide (hk'.below bel)
           have IH := hide ihj
           have HX := hide hx
           have HY := hide hy
           clear six six' hk hk' ih ihj hin1 hin1' hx hy
           have S0 : Hid (Below wr.heap.size wr wr.drew ∧ wr.drew.cell? ⟨B, 5, none⟩ = some (.slice (some ⟨bl, o, none⟩) len cap) ∧ wr.drew.cell? ⟨B + 1, 5, none⟩ = some (.slice (some ⟨bl', o', none⟩) len cap') ∧ wr.drew.cell? ⟨bl, o + j * 6, none⟩ = some (.int .i64 kp) ∧ wr.drew.cell? ⟨bl, o + j * 6 + 1, none⟩ = some (.bool bp) ∧ wr.drew.cell? ⟨bl, o + j * 6 + 2, none⟩ = some (.int .i64 mp) ∧ wr.drew.cell? ⟨bl, o + j * 6 + 3, none⟩ = some (.int .i64 sp) ∧ wr.drew.cell? ⟨bl, o + j * 6 + 4, none⟩ = some (.string tp) ∧ wr.drew.cell? ⟨bl, o + j * 6 + 5, none⟩ = some (.slice ap lenp capp) ∧ wr.drew.cell? ⟨bl', o' + j * 6, none⟩ = some (.int .i64 kq) ∧ wr.drew.cell? ⟨bl', o' + j * 6 + 1, none⟩ = some (.bool bq) ∧ wr.drew.cell? ⟨bl', o' + j * 6 + 2, none⟩ = some (.int .i64 mq) ∧ wr.drew.cell? ⟨bl', o' + j * 6 + 3, none⟩ = some (.int .i64 sq) ∧ wr.drew.cell? ⟨bl', o' + j * 6 + 4, none⟩ = some (.string tq) ∧ wr.drew.cell? ⟨bl', o' + j * 6 + 5, none⟩ = some (.slice aq lenq capq)) := ⟨(Below.refl _ _).drew, hb, hb', s1, s2, s3, s4, s5, s6, r1, r2, r3, r4, r5, r6⟩
           have SK : Hid (∀ x w', (Below wr.heap.size wr x ∧ x.cell? ⟨B, 5, none⟩ = some (.slice (some ⟨bl, o, none⟩) len cap) ∧ x.cell? ⟨B + 1, 5, none⟩ = some (.slice (some ⟨bl', o', none⟩) len cap') ∧ x.cell? ⟨bl, o + j * 6, none⟩ = some (.int .i64 kp) ∧ x.cell? ⟨bl, o + j * 6 + 1, none⟩ = some (.bool bp) ∧ x.cell? ⟨bl, o + j * 6 + 2, none⟩ = some (.int .i64 mp) ∧ x.cell? ⟨bl, o + j * 6 + 3, none⟩ = some (.int .i64 sp) ∧ x.cell? ⟨bl, o + j * 6 + 4, none⟩ = some (.string tp) ∧ x.cell? ⟨bl, o + j * 6 + 5, none⟩ = some (.slice ap lenp capp) ∧ x.cell? ⟨bl', o' + j * 6, none⟩ = some (.int .i64 kq) ∧ x.cell? ⟨bl', o' + j * 6 + 1, none⟩ = some (.bool bq) ∧ x.cell? ⟨bl', o' + j * 6 + 2, none⟩ = some (.int .i64 mq) ∧ x.cell? ⟨bl', o' + j * 6 + 3, none⟩ = some (.int .i64 sq) ∧ x.cell? ⟨bl', o' + j * 6 + 4, none⟩ = some (.string tq) ∧ x.cell? ⟨bl', o' + j * 6 + 5, none⟩ = some (.slice aq lenq capq)) → Below x.heap.size x w' → (Below wr.heap.size wr w' ∧ w'.cell? ⟨B, 5, none⟩ = some (.slice (some ⟨bl, o, none⟩) len cap) ∧ w'.cell? ⟨B + 1, 5, none⟩ = some (.slice (some ⟨bl', o', none⟩) len cap') ∧ w'.cell? ⟨bl, o + j * 6, none⟩ = some (.int .i64 kp) ∧ w'.cell? ⟨bl, o + j * 6 + 1, none⟩ = some (.bool bp) ∧ w'.cell? ⟨bl, o + j * 6 + 2, none⟩ = some (.int .i64 mp) ∧ w'.cell? ⟨bl, o + j * 6 + 3, none⟩ = some (.int .i64 sp) ∧ w'.cell? ⟨bl, o + j * 6 + 4, none⟩ = some (.string tp) ∧ w'.cell? ⟨bl, o + j * 6 + 5, none⟩ = some (.slice ap lenp capp) ∧ w'.cell? ⟨bl', o' + j * 6, none⟩ = some (.int .i64 kq) ∧ w'.cell? ⟨bl', o' + j * 6 + 1, none⟩ = some (.bool bq) ∧ w'.cell? ⟨bl', o' + j * 6 + 2, none⟩ = some (.int .i64 mq) ∧ w'.cell? ⟨bl', o' + j * 6 + 3, none⟩ = some (.int .i64 sq) ∧ w'.cell? ⟨bl', o' + j * 6 + 4, none⟩ = some (.string tq) ∧ w'.cell? ⟨bl', o' + j * 6 + 5, none⟩ = some (.slice aq lenq capq))) := by
            rintro x w' ⟨h0, h1, h2, h3, h4, h5, h6, h7, h8, h9, h10, h11, h12, h13, h14⟩ kk
            have z0 := h0.size
            exact ⟨bstep h0 kk, kcell kk (by omega) h1, kcell kk (by omega) h2, kcell kk (by omega) h3, kcell kk (by omega) h4, kcell kk (by omega) h5, kcell kk (by omega) h6, kcell kk (by omega) h7, kcell kk (by omega) h8, kcell kk (by omega) h9, kcell kk (by omega) h10, kcell kk (by omega) h11, kcell kk (by omega) h12, kcell kk (by omega) h13, kcell kk (by omega) h14⟩
           cases hok : (kid j).same (kid' j)
           ·have FIN := hide (all_range_no (n := len) (f := fun i => (kid i).same (kid' i)) hlt hok)
            rw [unhide HX, unhide HY] at hok
            have HOK := hide hok
            clear hok
            go_wp2_with fail
            go_region_held3 (fun w' => Below wr.heap.size wr w' ∧ w'.cell? ⟨B, 5, none⟩ = some (.slice (some ⟨bl, o, none⟩) len cap) ∧ w'.cell? ⟨B + 1, 5, none⟩ = some (.slice (some ⟨bl', o', none⟩) len cap') ∧ w'.cell? ⟨bl, o + j * 6, none⟩ = some (.int .i64 kp) ∧ w'.cell? ⟨bl, o + j * 6 + 1, none⟩ = some (.bool bp) ∧ w'.cell? ⟨bl, o + j * 6 + 2, none⟩ = some (.int .i64 mp) ∧ w'.cell? ⟨bl, o + j * 6 + 3, none⟩ = some (.int .i64 sp) ∧ w'.cell? ⟨bl, o + j * 6 + 4, none⟩ = some (.string tp) ∧ w'.cell? ⟨bl, o + j * 6 + 5, none⟩ = some (.slice ap lenp capp) ∧ w'.cell? ⟨bl', o' + j * 6, none⟩ = some (.int .i64 kq) ∧ w'.cell? ⟨bl', o' + j * 6 + 1, none⟩ = some (.bool bq) ∧ w'.cell? ⟨bl', o' + j * 6 + 2, none⟩ = some (.int .i64 mq) ∧ w'.cell? ⟨bl', o' + j * 6 + 3, none⟩ = some (.int .i64 sq) ∧ w'.cell? ⟨bl', o' + j * 6 + 4, none⟩ = some (.string tq) ∧ w'.cell? ⟨bl', o' + j * 6 + 5, none⟩ = some (.slice aq lenq capq))
             (first | exact unhide S0 | assumption | exact unhide SK _ _ (by assumption) k4)
             ((go_at_call 13; refine (unhide IH _ ?_ ?_).mono ?_; exact (unhide HK).below (And.left (by assumption)); exact (unhide HK').below (And.left (by assumption)); rintro e w4 ⟨rfl, k4⟩; rw [unhide HOK]))
            all_goals
             go_wp2_with fail
             go_ret
             refine ⟨ret_bool (unhide FIN).symm, ?_⟩
             have b := unhide B0
             rw [← unhide HB] at b
             exact bstep b (bstep bel (And.left (by assumption)))
           ·have HN := hide hok
            rw [unhide HX, unhide HY] at hok
            have HOK := hide hok
            clear hok
            go_wp2_with fail
            go_region_held3 (fun w' => Below wr.heap.size wr w' ∧ w'.cell? ⟨B, 5, none⟩ = some (.slice (some ⟨bl, o, none⟩) len cap) ∧ w'.cell? ⟨B + 1, 5, none⟩ = some (.slice (some ⟨bl', o', none⟩) len cap') ∧ w'.cell? ⟨bl, o + j * 6, none⟩ = some (.int .i64 kp) ∧ w'.cell? ⟨bl, o + j * 6 + 1, none⟩ = some (.bool bp) ∧ w'.cell? ⟨bl, o + j * 6 + 2, none⟩ = some (.int .i64 mp) ∧ w'.cell? ⟨bl, o + j * 6 + 3, none⟩ = some (.int .i64 sp) ∧ w'.cell? ⟨bl, o + j * 6 + 4, none⟩ = some (.string tp) ∧ w'.cell? ⟨bl, o + j * 6 + 5, none⟩ = some (.slice ap lenp capp) ∧ w'.cell? ⟨bl', o' + j * 6, none⟩ = some (.int .i64 kq) ∧ w'.cell? ⟨bl', o' + j * 6 + 1, none⟩ = some (.bool bq) ∧ w'.cell? ⟨bl', o' + j * 6 + 2, none⟩ = some (.int .i64 mq) ∧ w'.cell? ⟨bl', o' + j * 6 + 3, none⟩ = some (.int .i64 sq) ∧ w'.cell? ⟨bl', o' + j * 6 + 4, none⟩ = some (.string tq) ∧ w'.cell? ⟨bl', o' + j * 6 + 5, none⟩ = some (.slice aq lenq capq))
             (first | exact unhide S0 | assumption | exact unhide SK _ _ (by assumption) k4)
             ((go_at_call 13; refine (unhide IH _ ?_ ?_).mono ?_; exact (unhide HK).below (And.left (by assumption)); exact (unhide HK').below (And.left (by assumption)); rintro e w4 ⟨rfl, k4⟩; rw [unhide HOK]))
            all_goals
             go_wp2_with fail
             go_roundw
             case rel =>
              refine ⟨j + 1, by omega, by go_num, hide (fun i hi => ?_), bstep bel (And.left (by assumption))⟩
              by_cases hij : i = j
              ·subst hij; exact unhide HN
              ·exact unhide HA i (by omega)
             case measure => simp [intOf]; omega
          ·have FIN := hide (all_range (n := len) (f := fun i => (kid i).same (kid' i)) (fun i hi => unhide HA i (by omega)))
           go_wp2_with fail
           go_ret
           refine ⟨ret_bool (unhide FIN).symm, ?_⟩
           have b := unhide B0
           rw [← unhide HB] at b
           exact bstep b bel
        ·have hl' := hide hl
         clear ih hin hin'
         have e1 : ((len : Int) != len') = true := by simp; omega
         clear hl
         go_enter Tryz.func13, Tryz.ntmps13
         go_wp2_with fail
         go_ret
         exact ⟨ret_bool (by have := unhide hl'; simp [this]), below2 _ _ _⟩
       ·have ht' := hide ht
        clear ih hin hin'
        go_enter Tryz.func13, Tryz.ntmps13
        go_wp2_with fail
        go_ret
        exact ⟨ret_bool (by simp [show ¬ t = t' from fun e => unhide ht' (by rw [e])]), below2 _ _ _⟩
      ·have hs' := hide hs
       clear ih hin hin'
       go_enter Tryz.func13, Tryz.ntmps13
       go_wp2_with fail
       go_ret
       exact ⟨ret_bool (by have := unhide hs'; simp [this]), below2 _ _ _⟩
     ·have hm' := hide hm
      clear ih hin hin'
      go_enter Tryz.func13, Tryz.ntmps13
      go_wp2_with fail
      go_ret
      exact ⟨ret_bool (by have := unhide hm'; simp [this]), below2 _ _ _⟩
    ·have hb' := hide hb
     clear ih hin hin'
     have e1 : (b != b') = true := by simpa using hb
     go_enter Tryz.func13, Tryz.ntmps13
     go_wp2_with fail
     go_ret
     exact ⟨ret_bool (by have := unhide hb'; simp [this]), below2 _ _ _⟩
   ·have hk' := hide hk
    clear ih hin hin'
    have e1 : (k != k') = true := by simpa using hk
    clear hk
    go_enter Tryz.func13, Tryz.ntmps13
    go_wp2_with fail
    go_ret
    exact ⟨ret_bool (by have := unhide hk'; simp [this]), below2 _ _ _⟩
end
section
theorem trim_is (t : Nat) : ∀ m : Int, okM m = true → okM (trimM m t) = true ∧ trimS m t ≤ t ∧ (trimS m t = 0 ∨ trimM m t % 10 ≠ 0) := by
 induction t with
 | zero => intro m h; exact ⟨h, Nat.le_refl _, Or.inl rfl⟩
 | succ t ih =>
  intro m h
  unfold trimM trimS
  by_cases h10 : m % 10 = 0
  ·rw [if_pos h10, if_pos h10]
   have := ih (m / 10) (by rw [okM_iff] at *; omega)
   exact ⟨this.1, by omega, this.2.2⟩
  ·rw [if_neg h10, if_neg h10]
   exact ⟨h, Nat.le_refl _, Or.inr h10⟩
theorem isB_mk (m : Int) (s : Nat) (h : okM m = true) (h4 : s ≤ 4) (h0 : s = 0 ∨ m % 10 ≠ 0) : isB m s = true := by
 unfold isB
 rw [h]
 simp
 rcases h0 with h0 | h0
 ·exact ⟨by omega, Or.inl h0⟩
 ·exact ⟨by omega, Or.inr h0⟩
theorem fitT_is (m : Int) (s : Nat) : ∀ t, t ≤ 5 → fitTE m s t = 0 → isB (fitTM m s t) (fitTS m s t : Nat) = true := by
 intro t
 induction t with
 | zero => intro _ h; have h : (3 : Int) = 0 := h; omega
 | succ t ih =>
  intro ht h
  unfold fitTE at h
  unfold fitTM fitTS
  by_cases hok : okM (half m (p10 (s - t))) = true
  ·rw [if_pos hok, if_pos hok]
   have := trim_is t _ hok
   exact isB_mk _ _ this.1 (by omega) this.2.2
  ·rw [if_neg hok] at h ⊢
   rw [if_neg hok]
   exact ih (by omega) h
theorem fit_is (m s : Int) (h : fitE m s = 0) : isB (fitM m s) (fitS m s) = true := by
 unfold fitE at h
 unfold fitM fitS
 by_cases ha : argB m s = true
 ·rw [if_pos ha] at h; exact absurd h (by decide)
 ·rw [if_neg ha] at h ⊢
  rw [if_neg ha]
  exact fitT_is m _ _ (by omega) h
end
section
end
section
theorem half_exact (y d : Int) (hd : 1 ≤ d) : half (y * d) d = y := by
 unfold half
 have h1 : y * d % d = 0 := Int.mul_emod_left y d
 have h2 : y * d / d = y := Int.mul_ediv_cancel y (by omega)
 rw [h1, h2, if_neg (by omega)]
end
section
theorem half_scale (x y c : Int) (hc : 1 ≤ c) : half (x * c) (y * c) = half x y := by
 unfold half
 have h1 : x * c / (y * c) = x / y := by rw [Int.mul_comm x c, Int.mul_comm y c]; exact Int.mul_ediv_mul_of_pos _ _ (show 0 < c by omega)
 have h2 : x * c % (y * c) = x % y * c := by rw [Int.mul_comm x c, Int.mul_comm y c, Int.mul_comm (x % y) c]; exact Int.mul_emod_mul_of_pos _ _ (show 0 < c by omega)
 rw [h1, h2]
 generalize x % y = r
 generalize x / y = q
 have e1 : 2 * (r * c) = 2 * r * c := by rw [Int.mul_assoc]
 have a1 : (y * c < 2 * (r * c)) ↔ (y < 2 * r) := by
  rw [e1]
  constructor
  ·intro h; exact Int.lt_of_mul_lt_mul_right h (by omega)
  ·intro h; exact Int.mul_lt_mul_of_pos_right h (by omega)
 have a2 : (2 * (r * c) = y * c) ↔ (2 * r = y) := by
  rw [e1]
  constructor
  ·intro h; exact Int.eq_of_mul_eq_mul_right (by omega) h
  ·intro h; rw [h]
 simp only [a1, a2]
theorem trim_scale (x : Int) (z : Nat) : ∀ j, trimM (x * p10 j) (z + j) = trimM x z ∧ trimS (x * p10 j) (z + j) = trimS x z := by
 intro j
 induction j with
 | zero => rw [show x * p10 0 = x by show x * 1 = x; omega]; exact ⟨rfl, rfl⟩
 | succ j ih =>
  have e : x * p10 (j + 1) = x * p10 j * 10 := by rw [p10_succ, Int.mul_assoc]
  rw [e, show z + (j + 1) = (z + j) + 1 by omega]
  have t1 : trimM (x * p10 j * 10) (z + j + 1) = trimM (x * p10 j * 10 / 10) (z + j) := if_pos (by omega)
  have t2 : trimS (x * p10 j * 10) (z + j + 1) = trimS (x * p10 j * 10 / 10) (z + j) := if_pos (by omega)
  rw [t1, t2, show x * p10 j * 10 / 10 = x * p10 j by omega]
  exact ih
theorem fitT_low (x : Int) (z k : Nat) : ∀ t, t ≤ z + 1 →
  fitTM (x * p10 k) (z + k) t = fitTM x z t ∧ fitTS (x * p10 k) (z + k) t = fitTS x z t ∧ fitTE (x * p10 k) (z + k) t = fitTE x z t := by
 intro t
 induction t with
 | zero => intro _; exact ⟨rfl, rfl, rfl⟩
 | succ t ih =>
  intro ht
  have := ih (by omega)
  have h : half (x * p10 k) (p10 (z + k - t)) = half x (p10 (z - t)) := by
   rw [show z + k - t = (z - t) + k by omega, p10_add, half_scale _ _ _ (p10_pos _)]
  unfold fitTM fitTS fitTE
  rw [h]
  split
  ·exact ⟨rfl, rfl, rfl⟩
  ·exact this
theorem okM_down (x : Int) (j : Nat) (h : okM (x * p10 j) = true) : okM x = true := by
 rw [okM_iff] at *
 have p := p10_pos j
 have h1 : x * p10 j ≥ x ∨ x < 0 := by
  by_cases h0 : 0 ≤ x
  ·have := Int.mul_le_mul_of_nonneg_left p h0; omega
  ·omega
 have h2 : x * p10 j ≤ x ∨ 0 < x := by
  by_cases h0 : 0 ≤ -x
  ·have := Int.mul_le_mul_of_nonneg_left p h0; simp only [Int.neg_mul] at this; omega
  ·omega
 omega
theorem fitT_scale (x : Int) (z k : Nat) : ∀ j, j ≤ k →
  fitTM (x * p10 k) (z + k) (z + j + 1) = fitTM x z (z + 1) ∧ fitTS (x * p10 k) (z + k) (z + j + 1) = fitTS x z (z + 1) ∧ fitTE (x * p10 k) (z + k) (z + j + 1) = fitTE x z (z + 1) := by
 intro j
 induction j with
 | zero => intro _; exact fitT_low x z k (z + 1) (by omega)
 | succ j ih =>
  intro hj
  have := ih (by omega)
  have h : half (x * p10 k) (p10 (z + k - (z + (j + 1)))) = x * p10 (j + 1) := by
   have e : p10 k = p10 (j + 1) * p10 (z + k - (z + (j + 1))) := by rw [← p10_add]; congr 1; omega
   rw [e, ← Int.mul_assoc, half_exact _ _ (p10_pos _)]
  by_cases hk : okM (x * p10 (j + 1)) = true
  ·have hx := okM_down x (j + 1) hk
   have h0 : half x (p10 (z - z)) = x := by rw [Nat.sub_self]; exact half_one x
   have ht := trim_scale x z (j + 1)
   have l1 : fitTM (x * p10 k) (z + k) (z + (j + 1) + 1) = trimM (x * p10 (j + 1)) (z + (j + 1)) := by
    conv => lhs; unfold fitTM
    rw [h, if_pos hk]
   have l2 : fitTS (x * p10 k) (z + k) (z + (j + 1) + 1) = trimS (x * p10 (j + 1)) (z + (j + 1)) := by
    conv => lhs; unfold fitTS
    rw [h, if_pos hk]
   have l3 : fitTE (x * p10 k) (z + k) (z + (j + 1) + 1) = 0 := by
    conv => lhs; unfold fitTE
    rw [h, if_pos hk]
   have r1 : fitTM x z (z + 1) = trimM x z := by unfold fitTM; rw [h0, if_pos hx]
   have r2 : fitTS x z (z + 1) = trimS x z := by unfold fitTS; rw [h0, if_pos hx]
   have r3 : fitTE x z (z + 1) = 0 := by unfold fitTE; rw [h0, if_pos hx]
   rw [l1, l2, l3, r1, r2, r3]
   exact ⟨ht.1, ht.2, rfl⟩
  ·have l1 : fitTM (x * p10 k) (z + k) (z + (j + 1) + 1) = fitTM (x * p10 k) (z + k) (z + j + 1) := by
    conv => lhs; unfold fitTM
    rw [h, if_neg hk]; rfl
   have l2 : fitTS (x * p10 k) (z + k) (z + (j + 1) + 1) = fitTS (x * p10 k) (z + k) (z + j + 1) := by
    conv => lhs; unfold fitTS
    rw [h, if_neg hk]; rfl
   have l3 : fitTE (x * p10 k) (z + k) (z + (j + 1) + 1) = fitTE (x * p10 k) (z + k) (z + j + 1) := by
    conv => lhs; unfold fitTE
    rw [h, if_neg hk]; rfl
   rw [l1, l2, l3]
   exact this
theorem fit_scale (x z : Int) (z1 : 0 ≤ z) (z2 : z ≤ 4) (x2 : x ≤ 1000000000000000000) (x3 : -1000000000000000000 ≤ x * p10 (4 - z).toNat) (x4 : x * p10 (4 - z).toNat ≤ 1000000000000000000) (x5 : -1000000000000000000 ≤ x) :
  fitM (x * p10 (4 - z).toNat) 4 = fitM x z ∧ fitS (x * p10 (4 - z).toNat) 4 = fitS x z ∧ fitE (x * p10 (4 - z).toNat) 4 = fitE x z := by
 have a1 : argB (x * p10 (4 - z).toNat) 4 = false := by unfold argB; simp only [decide_eq_false_iff_not]; omega
 have a2 : argB x z = false := by unfold argB; simp only [decide_eq_false_iff_not]; omega
 have h := fitT_scale x z.toNat (4 - z).toNat (4 - z).toNat (Nat.le_refl _)
 rw [show z.toNat + (4 - z).toNat = 4 by omega] at h
 have e4 : (4 : Int).toNat = 4 := rfl
 have em : min 4 4 + 1 = 4 + 1 := rfl
 have ez : min z.toNat 4 + 1 = z.toNat + 1 := by omega
 unfold fitM fitS fitE
 simp only [a1, a2, Bool.false_eq_true, if_false, e4, em, ez]
 generalize x * p10 (4 - z).toNat = y at *
 exact ⟨h.1, by rw [h.2.1], h.2.2⟩
theorem up_scale (m s z : Int) (h1 : s ≤ z) (h2 : z ≤ 4) : upM m s 4 = upM m s z * p10 (4 - z).toNat := by
 unfold upM
 rw [Int.mul_assoc, ← p10_add]
 congr 2
 omega
theorem cmp_scale (x y c : Int) (hc : 1 ≤ c) : cmpI (x * c) (y * c) = cmpI x y := by
 unfold cmpI
 have a1 : (x * c < y * c) ↔ (x < y) := ⟨fun h => Int.lt_of_mul_lt_mul_right h (by omega), fun h => Int.mul_lt_mul_of_pos_right h (by omega)⟩
 have a2 : (y * c < x * c) ↔ (y < x) := ⟨fun h => Int.lt_of_mul_lt_mul_right h (by omega), fun h => Int.mul_lt_mul_of_pos_right h (by omega)⟩
 rw [ite_congr (propext a1) (fun _ => rfl) (fun _ => ite_congr (propext a2) (fun _ => rfl) (fun _ => rfl))]
theorem up_neg (n t z : Int) : upM (-n) t z = -upM n t z := by
 unfold upM; rw [Int.neg_mul]
end
section
theorem isB_ten {m s : Int} (h : isB m s = true) (hs : s ≠ 0) : m % 10 ≠ 0 := by
 unfold isB at h
 simp at h
 omega
theorem cmp_bd (x y : Int) : -1 ≤ cmpI x y ∧ cmpI x y ≤ 1 := by
 unfold cmpI
 split
 ·omega
 ·split <;> omega
end
section
def cmpS (t t' : ByteArray) : Int := Lib.compareBytes t.data.toList t'.data.toList
def cmpB (b b' : Bool) : Int := if b = b' then 0 else if b' = true then -1 else 1
def lexF (f : Nat → Int) (z : Int) (n : Nat) : Int := match (List.range n).find? (fun i => f i != 0) with
 | some i => f i
 | none => z
theorem lex_hit {f : Nat → Int} (z : Int) {n j : Nat} (hj : j < n) (h0 : ∀ i, i < j → f i = 0) (h : f j ≠ 0) : lexF f z n = f j := by
 have : (List.range n).find? (fun i => f i != 0) = some j := List.find?_range_eq_some.2 ⟨by simpa using h, List.mem_range.2 hj, fun i hi => by simp [h0 i hi]⟩
 unfold lexF; rw [this]
theorem lex_none {f : Nat → Int} (z : Int) {n : Nat} (h0 : ∀ i, i < n → f i = 0) : lexF f z n = z := by
 have : (List.range n).find? (fun i => f i != 0) = none := List.find?_range_eq_none.2 (fun i hi => by simp [h0 i hi])
 unfold lexF; rw [this]
theorem lex_cases (f : Nat → Int) (z : Int) (n : Nat) : (∃ j, j < n ∧ (∀ i, i < j → f i = 0) ∧ f j ≠ 0 ∧ lexF f z n = f j) ∨ ((∀ i, i < n → f i = 0) ∧ lexF f z n = z) := by
 cases h : (List.range n).find? (fun i => f i != 0) with
 | none =>
  have h0 : ∀ i, i < n → f i = 0 := fun i hi => by simpa using List.find?_range_eq_none.1 h i hi
  exact Or.inr ⟨h0, lex_none z h0⟩
 | some j =>
  obtain ⟨h1, h2, h3⟩ := List.find?_range_eq_some.1 h
  have h0 : ∀ i, i < j → f i = 0 := fun i hi => by simpa using h3 i hi
  have h1 : f j ≠ 0 := by simpa using h1
  exact Or.inl ⟨j, List.mem_range.1 h2, h0, h1, lex_hit z (List.mem_range.1 h2) h0 h1⟩
def VT.cmp : VT → VT → Int
 | .mk k b m s t _ len _ kid, .mk k' b' m' s' t' _ len' _ kid' =>
  if k ≠ k' then cmpI k k' else if k = 1 then cmpB b b' else if k = 2 then cmpI (upM m s 4) (upM m' s' 4) else if k = 3 then cmpS t t' else
  lexF (fun i => (kid i).cmp (kid' i)) (cmpI len len') (min len len')
 | _, _ => 0
theorem cmp_dec (m s n t : Int) (ha : isB m s = true) (hb : isB n t = true) : cmpI (upM m s (max s t)) (upM n t (max s t)) = cmpI (upM m s 4) (upM n t 4) := by
 have ⟨m1, m2, s1, s2⟩ := isB_bd ha
 have ⟨n1, n2, t1, t2⟩ := isB_bd hb
 rw [up_scale m s (max s t) (by omega) (by omega), up_scale n t (max s t) (by omega) (by omega)]
 exact (cmp_scale _ _ _ (p10_pos _)).symm
theorem cb_self : ∀ a : List UInt8, Lib.compareBytes a a = 0
 | [] => rfl
 | x :: a => by unfold Lib.compareBytes; rw [if_neg (UInt8.lt_irrefl x), if_neg (UInt8.lt_irrefl x)]; exact cb_self a
theorem cb_zero : ∀ a b : List UInt8, Lib.compareBytes a b = 0 → a = b
 | [], [], _ => rfl
 | [], _ :: _, h => by simp [Lib.compareBytes] at h
 | _ :: _, [], h => by simp [Lib.compareBytes] at h
 | x :: a, y :: b, h => by
  unfold Lib.compareBytes at h
  by_cases h1 : x < y
  ·rw [if_pos h1] at h; omega
  ·by_cases h2 : y < x
   ·rw [if_neg h1, if_pos h2] at h; omega
   ·rw [if_neg h1, if_neg h2] at h
    rw [cb_zero a b h, UInt8.le_antisymm (UInt8.not_lt.1 h2) (UInt8.not_lt.1 h1)]
theorem cb_bd : ∀ a b : List UInt8, -1 ≤ Lib.compareBytes a b ∧ Lib.compareBytes a b ≤ 1
 | [], [] => by simp [Lib.compareBytes]
 | [], _ :: _ => by simp [Lib.compareBytes]
 | _ :: _, [] => by simp [Lib.compareBytes]
 | x :: a, y :: b => by
  unfold Lib.compareBytes
  by_cases h1 : x < y
  ·rw [if_pos h1]; omega
  ·by_cases h2 : y < x
   ·rw [if_neg h1, if_pos h2]; omega
   ·rw [if_neg h1, if_neg h2]; exact cb_bd a b
theorem cb_less : ∀ a b : List UInt8, Op.bytesLess a b = decide (Lib.compareBytes a b = -1)
 | [], [] => rfl
 | [], _ :: _ => rfl
 | _ :: _, [] => rfl
 | x :: a, y :: b => by
  unfold Lib.compareBytes Op.bytesLess
  by_cases h1 : x < y
  ·simp [h1]
  ·by_cases h2 : y < x
   ·have : ¬ x = y := by rintro rfl; exact UInt8.lt_irrefl x h2
    simp [h1, h2, this]
   ·have e : x = y := UInt8.le_antisymm (UInt8.not_lt.1 h2) (UInt8.not_lt.1 h1)
    subst e
    have ih := cb_less a b
    simp [ih]
end
section
def Own (w : World) (b : Nat) : Prop := VT.Six w b 0 0 false 0 0 ⟨#[]⟩ none 0 0 ∧ w.frozen? ⟨b, 0, none⟩ = false ∧ w.frozen? ⟨b, 1, none⟩ = false ∧ w.frozen? ⟨b, 2, none⟩ = false ∧ w.frozen? ⟨b, 3, none⟩ = false ∧ w.frozen? ⟨b, 4, none⟩ = false ∧ w.frozen? ⟨b, 5, none⟩ = false
theorem Own.below {w w' : World} {b : Nat} (h : Own w b) (k : Below w.heap.size w w') : Own w' b := by
 obtain ⟨s, f0, f1, f2, f3, f4, f5⟩ := h
 exact ⟨s.below k, kfroz k s.1 f0, kfroz k s.1 f1, kfroz k s.1 f2, kfroz k s.1 f3, kfroz k s.1 f4, kfroz k s.1 f5⟩
theorem sixfl {w : World} {b : Nat} {k : Int} {bb : Bool} {m s : Int} {t : ByteArray} {a : Option Addr} {len cap : Nat} (h : VT.Six w b 0 k bb m s t a len cap) : b < w.heap.size ∧ w.cell? ⟨b, 0, none⟩ = some (.int .i64 k) ∧ w.cell? ⟨b, 1, none⟩ = some (.bool bb) ∧ w.cell? ⟨b, 2, none⟩ = some (.int .i64 m) ∧ w.cell? ⟨b, 3, none⟩ = some (.int .i64 s) ∧ w.cell? ⟨b, 4, none⟩ = some (.string t) ∧ w.cell? ⟨b, 5, none⟩ = some (.slice a len cap) := by
 obtain ⟨h0, e0, e1, e2, e3, e4, e5⟩ := h
 simp only [Nat.zero_add] at e0 e1 e2 e3 e4 e5
 exact ⟨h0, e0, e1, e2, e3, e4, e5⟩
theorem bZ (w : World) : Below w.heap.size w (w.alloc (Obj.cells #[.int .i64 0, .bool false, .int .i64 0, .int .i64 0, .string ⟨#[]⟩, .slice none 0 0] 32)) := below1 w _
theorem Own.fl {w : World} {b : Nat} (h : Own w b) : b < w.heap.size ∧ w.cell? ⟨b, 0, none⟩ = some (.int .i64 0) ∧ w.cell? ⟨b, 1, none⟩ = some (.bool false) ∧ w.cell? ⟨b, 2, none⟩ = some (.int .i64 0) ∧ w.cell? ⟨b, 3, none⟩ = some (.int .i64 0) ∧ w.cell? ⟨b, 4, none⟩ = some (.string ⟨#[]⟩) ∧ w.cell? ⟨b, 5, none⟩ = some (.slice none 0 0) ∧ w.frozen? ⟨b, 0, none⟩ = false ∧ w.frozen? ⟨b, 1, none⟩ = false ∧ w.frozen? ⟨b, 2, none⟩ = false ∧ w.frozen? ⟨b, 3, none⟩ = false ∧ w.frozen? ⟨b, 4, none⟩ = false ∧ w.frozen? ⟨b, 5, none⟩ = false := by
 obtain ⟨⟨h0, e0, e1, e2, e3, e4, e5⟩, f0, f1, f2, f3, f4, f5⟩ := h
 simp only [Nat.zero_add] at e0 e1 e2 e3 e4 e5
 exact ⟨h0, e0, e1, e2, e3, e4, e5, f0, f1, f2, f3, f4, f5⟩
theorem Own.new (w : World) (t : TypeId) : Own (w.alloc (Obj.cells #[.int .i64 0, .bool false, .int .i64 0, .int .i64 0, .string ⟨#[]⟩, .slice none 0 0] t)) w.heap.size :=
 ⟨⟨by simp, by go_simp, by go_simp, by go_simp, by go_simp, by go_simp, by go_simp⟩, by go_simp, by go_simp, by go_simp, by go_simp, by go_simp, by go_simp⟩
theorem Own.put {w : World} {b : Nat} (h : Own w b) (K : Int) (B : Bool) (M S : Int) (T : ByteArray) (A : Option Addr) (L C : Nat) :
  VT.Six ((((((w.setCell ⟨b, 0, none⟩ (.int .i64 K)).setCell ⟨b, 1, none⟩ (.bool B)).setCell ⟨b, 2, none⟩ (.int .i64 M)).setCell ⟨b, 3, none⟩ (.int .i64 S)).setCell ⟨b, 4, none⟩ (.string T)).setCell ⟨b, 5, none⟩ (.slice A L C)) b 0 K B M S T A L C := by
 obtain ⟨⟨h0, e0, e1, e2, e3, e4, e5⟩, -⟩ := h
 simp only [Nat.zero_add] at e0 e1 e2 e3 e4 e5
 refine ⟨by simpa [World.setCell] using h0, ?_, ?_, ?_, ?_, ?_, ?_⟩ <;> (try simp only [Nat.zero_add]) <;> (first | (go_simp; done) | (go_simp; exact World.cell?_setCell_same' _ _ _ (by go_simp)) | exact World.cell?_setCell_same' _ _ _ (by go_simp))
theorem six_other {w : World} {b' o : Nat} {k : Int} {bb : Bool} {m s : Int} {t : ByteArray} {a : Option Addr} {len cap : Nat} (h : VT.Six w b' o k bb m s t a len cap) {b : Nat} (hne : b' ≠ b) (v0 v1 v2 v3 v4 v5 : Value) :
  VT.Six ((((((w.setCell ⟨b, 0, none⟩ v0).setCell ⟨b, 1, none⟩ v1).setCell ⟨b, 2, none⟩ v2).setCell ⟨b, 3, none⟩ v3).setCell ⟨b, 4, none⟩ v4).setCell ⟨b, 5, none⟩ v5) b' o k bb m s t a len cap := by
 obtain ⟨h0, e0, e1, e2, e3, e4, e5⟩ := h
 exact ⟨by simpa [World.setCell] using h0, by go_simp, by go_simp, by go_simp, by go_simp, by go_simp, by go_simp⟩
theorem Own.other {w : World} {b' : Nat} (h : Own w b') {b : Nat} (hne : b' ≠ b) (v0 v1 v2 v3 v4 v5 : Value) :
  Own ((((((w.setCell ⟨b, 0, none⟩ v0).setCell ⟨b, 1, none⟩ v1).setCell ⟨b, 2, none⟩ v2).setCell ⟨b, 3, none⟩ v3).setCell ⟨b, 4, none⟩ v4).setCell ⟨b, 5, none⟩ v5) b' := by
 obtain ⟨s, f0, f1, f2, f3, f4, f5⟩ := h
 exact ⟨six_other s hne _ _ _ _ _ _, by go_simp, by go_simp, by go_simp, by go_simp, by go_simp, by go_simp⟩
end
section
namespace VT
def Fresh (n : Nat) (w : World) : VT → Prop
 | .none => True
 | .mk _ _ _ _ _ a len _ kid => ∀ i, i < len → (∃ bl o, a = some ⟨bl, o, Option.none⟩ ∧ n ≤ bl ∧ ∀ j, j < 6 → w.frozen? ⟨bl, o + i * 6 + j, Option.none⟩ = false) ∧ (kid i).Fresh n w
theorem Fresh.mono {n n' : Nat} {w : World} (h : n' ≤ n) (x : VT) (f : x.Fresh n w) : x.Fresh n' w := by
 induction x with
 | none => trivial
 | mk k b m s t a len cap kid ih =>
  intro i hi
  obtain ⟨⟨bl, o, ha, hn, hf⟩, hk⟩ := f i hi
  exact ⟨⟨bl, o, ha, by omega, hf⟩, ih i hk⟩
theorem away {n : Nat} {w w' : World} (hc : ∀ bl o, n ≤ bl → w'.cell? ⟨bl, o, Option.none⟩ = w.cell? ⟨bl, o, Option.none⟩) (hf : ∀ bl o, n ≤ bl → w'.frozen? ⟨bl, o, Option.none⟩ = w.frozen? ⟨bl, o, Option.none⟩)
  (x : VT) (h : x.In w) (f : x.Fresh n w) : x.In w' ∧ x.Fresh n w' := by
 induction x with
 | none => exact absurd h (by simp [In])
 | mk k b m s t a len cap kid ih =>
  refine ⟨⟨h.1, fun i hi => ?_⟩, fun i hi => ?_⟩
  ·obtain ⟨⟨bl, o, ha, hcc⟩, hk⟩ := h.2 i hi
   obtain ⟨⟨bl', o', ha', hn, hff⟩, hk'⟩ := f i hi
   obtain ⟨rfl, rfl⟩ : bl = bl' ∧ o = o' := by rw [ha] at ha'; simpa using ha'
   exact ⟨⟨bl, o, ha, fun j hj => (hc _ _ hn).trans (hcc j hj)⟩, (ih i hk hk').1⟩
  ·obtain ⟨⟨bl, o, ha, hcc⟩, hk⟩ := h.2 i hi
   obtain ⟨⟨bl', o', ha', hn, hff⟩, hk'⟩ := f i hi
   exact ⟨⟨bl', o', ha', hn, fun j hj => (hf _ _ hn).trans (hff j hj)⟩, (ih i hk hk').2⟩
theorem Fresh.below {n : Nat} {w w' : World} (hb : Below w.heap.size w w') (x : VT) (h : x.In w) (f : x.Fresh n w) : x.Fresh n w' := by
 induction x with
 | none => trivial
 | mk k b m s t a len cap kid ih =>
  intro i hi
  obtain ⟨⟨bl, o, ha, hcc⟩, hk⟩ := h.2 i hi
  obtain ⟨⟨bl', o', ha', hn, hff⟩, hk'⟩ := f i hi
  obtain ⟨rfl, rfl⟩ : bl = bl' ∧ o = o' := by rw [ha] at ha'; simpa using ha'
  refine ⟨⟨bl, o, ha, hn, fun j hj => ?_⟩, ih i hk hk'⟩
  have hl : bl < w.heap.size := by
   have h0 := hcc 0 (by omega)
   cases hx : kid i with
   | none => rw [hx] at hk; exact absurd hk (by simp [In])
   | mk => rw [hx] at h0; exact World.block_lt_of_cell? _ _ h0
  exact ((bcell hb).2 bl _ hl).trans (hff j hj)
end VT
end
section
namespace VT
def bare : VT → VT
 | .none => .none
 | .mk k b m s t _ len _ kid => .mk k b m s t Option.none len 0 (fun i => if i < len then (kid i).bare else .none)
def Lies (Q : Nat → Prop) : VT → Prop
 | .none => True
 | .mk _ _ _ _ _ a len _ kid => ∀ i, i < len → (∃ bl o, a = some ⟨bl, o, Option.none⟩ ∧ Q bl) ∧ (kid i).Lies Q
theorem In.form {w : World} {x : VT} (h : x.In w) : ∃ k b m s t a len cap kid, x = .mk k b m s t a len cap kid := by
 cases x with
 | none => exact absurd h (by simp [In])
 | mk k b m s t a len cap kid => exact ⟨k, b, m, s, t, a, len, cap, kid, rfl⟩
theorem In.kept {Q : Nat → Prop} {w w' : World} (hh : ∀ bl o, bl < w.heap.size → Q bl → w'.cell? ⟨bl, o, Option.none⟩ = w.cell? ⟨bl, o, Option.none⟩) (x : VT) (h : x.In w) (f : x.Lies Q) : x.In w' := by
 induction x with
 | none => exact h
 | mk k b m s t a len cap kid ih =>
  refine ⟨h.1, fun i hi => ?_⟩
  obtain ⟨⟨bl, o, ha, hc⟩, hk⟩ := h.2 i hi
  obtain ⟨⟨bl', o', ha', hq⟩, hk'⟩ := f i hi
  obtain ⟨rfl, rfl⟩ : bl = bl' ∧ o = o' := by rw [ha] at ha'; simpa using ha'
  refine ⟨⟨bl, o, ha, fun j hj => ?_⟩, ih i hk hk'⟩
  have h0 := hc 0 (by omega)
  have hl : bl < w.heap.size := by
   obtain ⟨_, _, _, _, _, _, _, _, _, hx⟩ := hk.form
   rw [hx] at h0
   exact World.block_lt_of_cell? _ _ h0
  rw [hh bl _ hl hq]
  exact hc j hj
theorem Lies.weak {Q Q' : Nat → Prop} (hq : ∀ g, Q g → Q' g) {x : VT} (f : x.Lies Q) : x.Lies Q' := by
 induction x with
 | none => trivial
 | mk k b m s t a len cap kid ih =>
  intro i hi
  obtain ⟨⟨bl, o, ha, h⟩, hk⟩ := f i hi
  exact ⟨⟨bl, o, ha, hq bl h⟩, ih i hk⟩
theorem Lies.and {Q Q' : Nat → Prop} {x : VT} (f : x.Lies Q) (f' : x.Lies Q') : x.Lies (fun g => Q g ∧ Q' g) := by
 induction x with
 | none => trivial
 | mk k b m s t a len cap kid ih =>
  intro i hi
  obtain ⟨⟨bl, o, ha, h⟩, hk⟩ := f i hi
  obtain ⟨⟨bl', o', ha', h'⟩, hk'⟩ := f' i hi
  obtain ⟨rfl, rfl⟩ : bl = bl' ∧ o = o' := by rw [ha] at ha'; simpa using ha'
  exact ⟨⟨bl, o, ha, h, h'⟩, ih i hk hk'⟩
theorem In.lies {w : World} {x : VT} (h : x.In w) : x.Lies (fun g => g < w.heap.size) := by
 induction x with
 | none => trivial
 | mk k b m s t a len cap kid ih =>
  intro i hi
  obtain ⟨⟨bl, o, ha, hc⟩, hk⟩ := h.2 i hi
  refine ⟨⟨bl, o, ha, ?_⟩, ih i hk⟩
  have h0 := hc 0 (by omega)
  obtain ⟨_, _, _, _, _, _, _, _, _, hx⟩ := hk.form
  rw [hx] at h0
  exact World.block_lt_of_cell? _ _ h0
theorem Fresh.lies {n : Nat} {w : World} {x : VT} (f : x.Fresh n w) : x.Lies (fun g => n ≤ g) := by
 induction x with
 | none => trivial
 | mk k b m s t a len cap kid ih =>
  intro i hi
  obtain ⟨⟨bl, o, ha, hn, hff⟩, hk⟩ := f i hi
  exact ⟨⟨bl, o, ha, hn⟩, ih i hk⟩
theorem lies_leaf (Q : Nat → Prop) (k : Int) (b : Bool) (m s : Int) (t : ByteArray) (a : Option Addr) (cap : Nat) (kid : Nat → VT) : (VT.mk k b m s t a 0 cap kid).Lies Q := fun i hi => absurd hi (Nat.not_lt_zero _)
theorem in_leaf {w : World} {k : Int} {b : Bool} {m s : Int} {t : ByteArray} (wk : (Lit.int .i64 k).wf = true) (wm : (Lit.int .i64 m).wf = true) (ws : (Lit.int .i64 s).wf = true) (ht : t.size ≤ maxLen) : (VT.mk k b m s t Option.none 0 0 (fun _ => .none)).In w :=
 ⟨⟨wk, wm, ws, ht, Nat.le_refl _, Nat.zero_le _⟩, fun i hi => absurd hi (Nat.not_lt_zero _)⟩
def leaf (k : Int) (b : Bool) (m s : Int) (t : ByteArray) : VT := .mk k b m s t Option.none 0 0 (fun _ => .none)
theorem bare_leaf (k : Int) (b : Bool) (m s : Int) (t : ByteArray) (a : Option Addr) (cap : Nat) (kid : Nat → VT) : (VT.mk k b m s t a 0 cap kid).bare = leaf k b m s t := by
 unfold bare leaf; simp
def mkV (k : Int) (b : Bool) (m s : Int) (t : ByteArray) (l : List VT) : VT := .mk k b m s t Option.none l.length 0 (fun i => l.getD i .none)
theorem bare_mk (k : Int) (b : Bool) (m s : Int) (t : ByteArray) (a : Option Addr) (cap : Nat) (l : List VT) : (VT.mk k b m s t a l.length cap (fun i => l.getD i .none)).bare = mkV k b m s t (l.map bare) := by
 unfold bare mkV
 rw [List.length_map]
 congr 1
 funext i
 split
 ·rename_i h; simp [h]
 ·rename_i h; simp at h; simp [h]
theorem bare_of_same (x : VT) : ∀ y : VT, x.same y = true → x.bare = y.bare := by
 induction x with
 | none => intro y h; cases y <;> simp [same] at h
 | mk k b m s t a len cap kid ih =>
  intro y h
  cases y with
  | none => simp [same] at h
  | mk k' b' m' s' t' a' len' cap' kid' =>
   unfold same at h
   simp only [Bool.and_eq_true, decide_eq_true_eq] at h
   obtain ⟨rfl, rfl, rfl, rfl, rfl, rfl, hs⟩ := h
   unfold bare
   congr 1
   funext i
   split
   ·rename_i hi
    exact ih i _ (all_range_get (f := fun i => (kid i).same (kid' i)) hs hi)
   ·rfl
theorem same_of_bare {w w' : World} (x : VT) : ∀ y : VT, x.In w → y.In w' → x.bare = y.bare → x.same y = true := by
 induction x with
 | none => intro y h; exact absurd h (by simp [In])
 | mk k b m s t a len cap kid ih =>
  intro y h h' e
  cases y with
  | none => exact absurd h' (by simp [In])
  | mk k' b' m' s' t' a' len' cap' kid' =>
   unfold bare at e
   simp only [VT.mk.injEq, true_and] at e
   obtain ⟨rfl, rfl, rfl, rfl, rfl, rfl, e⟩ := e
   unfold same
   simp only [decide_true, Bool.true_and]
   refine all_range (f := fun i => (kid i).same (kid' i)) (fun i hi => ih i _ (h.2 i hi).2 (h'.2 i hi).2 ?_)
   have := congrFun e i
   rw [if_pos hi, if_pos hi] at this
   exact this
theorem okB_bare (x : VT) : ∀ n, x.bare.okB n = x.okB n := by
 induction x with
 | none => intro n; rfl
 | mk k b m s t a len cap kid ih =>
  intro n
  have e : ((List.range len).all fun i => (if i < len then (kid i).bare else VT.none).okB (n - 1)) = (List.range len).all fun i => (kid i).okB (n - 1) := by
   rw [Bool.eq_iff_iff, List.all_eq_true, List.all_eq_true]
   constructor
   ·intro h i hi
    have := h i hi
    rw [if_pos (List.mem_range.1 hi), ih i] at this
    exact this
   ·intro h i hi
    rw [if_pos (List.mem_range.1 hi), ih i]
    exact h i hi
  unfold bare okB
  rw [e]
theorem lexF_congr {f g : Nat → Int} {z : Int} {n : Nat} (h : ∀ i, i < n → f i = g i) : lexF f z n = lexF g z n := by
 rcases lex_cases g z n with ⟨j, hj, h0, h1, e⟩ | ⟨h0, e⟩
 ·rw [e, lex_hit z hj (fun i hi => (h i (by omega)).trans (h0 i hi)) (by rw [h j hj]; exact h1), h j hj]
 ·rw [e, lex_none z (fun i hi => (h i hi).trans (h0 i hi))]
theorem cmp_bare (x : VT) : ∀ y : VT, x.bare.cmp y.bare = x.cmp y := by
 induction x with
 | none => intro y; cases y <;> rfl
 | mk k b m s t a len cap kid ih =>
  intro y
  cases y with
  | none => rfl
  | mk k' b' m' s' t' a' len' cap' kid' =>
   unfold bare cmp
   congr 4
   exact lexF_congr (fun i hi => by dsimp only; rw [if_pos (by omega), if_pos (by omega)]; exact ih i _)
end VT
end
section
def tval (k : Int) (b : Bool) : Value := .agg #[.int .i64 k, .bool b, .int .i64 0, .int .i64 0, .string ⟨#[]⟩, .slice none 0 0]
def trB (k : Int) (b : Bool) : Bool := decide (k = 1) && b
def unB (k : Int) (b : Bool) : Bool := decide (k = 1) && !b
def andK (u1 u2 y1 y2 : Bool) : Int := if u1 = true then 1 else if u2 = true then 1 else if y1 = true then if y2 = true then 1 else 0 else 0
def andB (u1 u2 y1 y2 : Bool) : Bool := if u1 = true then false else if u2 = true then false else if y1 = true then y2 else false
def orK (y1 y2 u1 u2 : Bool) : Int := if y1 = true then 1 else if y2 = true then 1 else if u1 = true then if u2 = true then 1 else 0 else 0
def orB (y1 y2 : Bool) : Bool := if y1 = true then true else y2
def notK (k : Int) : Int := if k = 1 then 1 else 0
def notB (k : Int) (b : Bool) : Bool := if k = 1 then !b else false
theorem set6 {n : Nat} {V x : World} (h : Below n V x) {bl : Nat} (hb : n ≤ bl) (v0 v1 v2 v3 v4 v5 : Value) :
  Below n V ((((((x.setCell ⟨bl, 0, none⟩ v0).setCell ⟨bl, 1, none⟩ v1).setCell ⟨bl, 2, none⟩ v2).setCell ⟨bl, 3, none⟩ v3).setCell ⟨bl, 4, none⟩ v4).setCell ⟨bl, 5, none⟩ v5) :=
 (((((h.setCell hb v0).setCell hb v1).setCell hb v2).setCell hb v3).setCell hb v4).setCell hb v5
end
end Go.Proofs.YtfdimdjmnfdecaaGreat

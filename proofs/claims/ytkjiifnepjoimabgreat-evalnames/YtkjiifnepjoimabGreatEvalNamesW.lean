/- The walk of EvalNames: a name is the first one's value; one that is not there is nothing. -/
import Derived.Test.YtkjiifnepjoimabGreatHBC
namespace Go.Proofs.YtkjiifnepjoimabGreat
open Go.RowKit
open VT (leaf mkV)
set_option linter.unusedVariables false
set_option linter.unusedSimpArgs false
attribute [local go_sem ↓] Go.wp_at_zero Go.wp_at_succ

theorem name_ev (env : List (List UInt8 × VT)) (t : ByteArray) : evT env (XT.mk 5 false 0 0 t false false none 0 0 (fun _ => .none)) = (lookT env (XT.tl t), 0) := by
  unfold evT
  rw [if_neg (by simp [souB]), if_neg (by decide), if_neg (by decide), if_neg (by decide), if_neg (by decide), if_pos rfl]

set_option maxHeartbeats 8000000 in
set_option maxRecDepth 10000 in
theorem evalNames_walk (a9 : Option Addr) (c9 : Nat) (es : List (ByteArray × VT)) (t : ByteArray) (ht : t.size ≤ maxLen) (w : World) (henv : EnvIn w a9 es) (hlen : es.length ≤ maxLen) (hnm : ∀ e ∈ es, e.1.size ≤ maxLen) :
    Calls Tryz.prog 5 #[.slice a9 es.length c9, .string t] w fun e w' => e = .returned (.bool true) ∧ Below w.heap.size w w' := by
  have MY := hide (emay_any a9 c9 es w henv hlen hnm)
  have hlm := hlen
  unfold maxLen at hlm
  have HT := hide ht
  have HEL := hide hlen
  have htm := ht
  unfold maxLen at htm
  clear hnm ht hlen
  go_enter Tryz.func5, Tryz.ntmps5
  go_wp2_with fail
  refine (unhide MY).mono ?_
  rintro e w1 ⟨⟨r, rfl, hr⟩, b1⟩
  cases r
  · go_wp2_with fail
    go_ret
    exact ⟨rfl, b1⟩
  have HOK := hide (hr rfl)
  clear hr MY
  by_cases h50 : 50 < (t.size : Int)
  · go_wp2_with fail
    go_ret
    exact ⟨rfl, b1⟩
  have EV := eval_any (XT.mk 5 false 0 0 t false false none 0 0 (fun _ => .none)) es a9 c9 w1 ⟨Nat.zero_le _, fun i hi => absurd hi (Nat.not_lt_zero _)⟩ ⟨unhide HT, Nat.zero_le _, fun i hi => absurd hi (Nat.not_lt_zero _)⟩ (henv.below b1) (unhide HEL) (unhide HOK)
  rw [name_ev] at EV
  have EVH := hide EV
  generalize hR : lookT (envT es) (XT.tl t) = R at *
  have HR : Hid (lookT (envT (es.drop 0)) (XT.tl t) = R) := hide (by rw [List.drop_zero]; exact hR)
  clear EV hR HEL HOK
  go_wp2_with fail
  refine (unhide EVH).mono ?_
  rintro e w2 ⟨⟨v, rfl, T, rfl, hT, hTl, hTb⟩, b2⟩
  obtain ⟨kz, bz, mz, sz, tz, az, lz, cz, kidz, rfl⟩ := hT.form
  dsimp only [VT.val] at *
  have b3 := below1 w2 (Obj.cells #[.int .i64 kz, .bool bz, .int .i64 mz, .int .i64 sz, .string tz, .slice az lz cz] 26)
  have X3 := six_new w2 kz bz mz sz tz az lz cz
  have B3 := bstep (bstep b1 b2) b3
  have YI := hide (hT.below b3)
  have YB := hide hTb
  have env3 := henv.below B3
  clear hT hTl hTb b1 b2 b3 EVH henv
  go_wp2_with fail
  generalize w2.alloc (Obj.cells #[.int .i64 kz, .bool bz, .int .i64 mz, .int .i64 sz, .string tz, .slice az lz cz] 26) = V at *
  generalize w2.heap.size = G at *
  obtain ⟨x0, x1, x2, x3, x4, x5, x6⟩ := X3
  simp only [Nat.zero_add] at x1 x2 x3 x4 x5 x6
  go_loop [7] (fun i => ∃ (j : Nat), j ≤ es.length ∧ i = .int .i64 j ∧ Hid (lookT (envT (es.drop j)) (XT.tl t) = R)) (fun i => es.length - (intOf i).toNat)
  case atStart => exact ⟨0, Nat.zero_le _, rfl, HR⟩
  case round =>
    clear HR
    obtain ⟨j, hj, rfl, HR⟩ := hrel
    by_cases hlt : j < es.length
    · obtain ⟨bl, o, n, k', b', m', s', t', a', len', cap', kid', rfl, hx, sev, hk⟩ := env3.at hlt
      obtain ⟨s0, s1, s2, s3, s4, s5, s6, s7⟩ := id sev
      by_cases hn : n.toList = t.toList
      · have HR2 := hide (show R = (VT.mk k' b' m' s' t' a' len' cap' kid').bare by
          have := unhide HR
          rw [drop_consE hlt, hx] at this
          rw [← this]
          show (if XT.tl n = XT.tl t then _ else _) = _
          rw [if_pos (tl_eq.2 hn)])
        have SM := hide (fun w h h' => same_any (VT.mk kz bz mz sz tz az lz cz kidz) (VT.mk k' b' m' s' t' a' len' cap' kid') w h h')
        rw [VT.same_of_bare _ _ (unhide YI) hk ((unhide YB).trans (unhide HR2))] at SM
        have HK := hide hk
        clear HR hx hk HR2 YB
        have S0 : Hid (Below V.heap.size V V.drew ∧ V.drew.cell? ⟨G, 0, none⟩ = some (.int .i64 kz) ∧ V.drew.cell? ⟨G, 1, none⟩ = some (.bool bz) ∧ V.drew.cell? ⟨G, 2, none⟩ = some (.int .i64 mz) ∧ V.drew.cell? ⟨G, 3, none⟩ = some (.int .i64 sz) ∧ V.drew.cell? ⟨G, 4, none⟩ = some (.string tz) ∧ V.drew.cell? ⟨G, 5, none⟩ = some (.slice az lz cz) ∧ V.drew.cell? ⟨bl, o + j * 7 + 1, none⟩ = some (.int .i64 k') ∧ V.drew.cell? ⟨bl, o + j * 7 + 2, none⟩ = some (.bool b') ∧ V.drew.cell? ⟨bl, o + j * 7 + 3, none⟩ = some (.int .i64 m') ∧ V.drew.cell? ⟨bl, o + j * 7 + 4, none⟩ = some (.int .i64 s') ∧ V.drew.cell? ⟨bl, o + j * 7 + 5, none⟩ = some (.string t') ∧ V.drew.cell? ⟨bl, o + j * 7 + 6, none⟩ = some (.slice a' len' cap')) := ⟨(Below.refl _ _).drew, x1, x2, x3, x4, x5, x6, s2, s3, s4, s5, s6, s7⟩
        have SK : Hid (∀ x w', (Below V.heap.size V x ∧ x.cell? ⟨G, 0, none⟩ = some (.int .i64 kz) ∧ x.cell? ⟨G, 1, none⟩ = some (.bool bz) ∧ x.cell? ⟨G, 2, none⟩ = some (.int .i64 mz) ∧ x.cell? ⟨G, 3, none⟩ = some (.int .i64 sz) ∧ x.cell? ⟨G, 4, none⟩ = some (.string tz) ∧ x.cell? ⟨G, 5, none⟩ = some (.slice az lz cz) ∧ x.cell? ⟨bl, o + j * 7 + 1, none⟩ = some (.int .i64 k') ∧ x.cell? ⟨bl, o + j * 7 + 2, none⟩ = some (.bool b') ∧ x.cell? ⟨bl, o + j * 7 + 3, none⟩ = some (.int .i64 m') ∧ x.cell? ⟨bl, o + j * 7 + 4, none⟩ = some (.int .i64 s') ∧ x.cell? ⟨bl, o + j * 7 + 5, none⟩ = some (.string t') ∧ x.cell? ⟨bl, o + j * 7 + 6, none⟩ = some (.slice a' len' cap')) → Below x.heap.size x w' → (Below V.heap.size V w' ∧ w'.cell? ⟨G, 0, none⟩ = some (.int .i64 kz) ∧ w'.cell? ⟨G, 1, none⟩ = some (.bool bz) ∧ w'.cell? ⟨G, 2, none⟩ = some (.int .i64 mz) ∧ w'.cell? ⟨G, 3, none⟩ = some (.int .i64 sz) ∧ w'.cell? ⟨G, 4, none⟩ = some (.string tz) ∧ w'.cell? ⟨G, 5, none⟩ = some (.slice az lz cz) ∧ w'.cell? ⟨bl, o + j * 7 + 1, none⟩ = some (.int .i64 k') ∧ w'.cell? ⟨bl, o + j * 7 + 2, none⟩ = some (.bool b') ∧ w'.cell? ⟨bl, o + j * 7 + 3, none⟩ = some (.int .i64 m') ∧ w'.cell? ⟨bl, o + j * 7 + 4, none⟩ = some (.int .i64 s') ∧ w'.cell? ⟨bl, o + j * 7 + 5, none⟩ = some (.string t') ∧ w'.cell? ⟨bl, o + j * 7 + 6, none⟩ = some (.slice a' len' cap'))) := by
          rintro x w' ⟨h0, h1, h2, h3, h4, h5, h6, h7, h8, h9, h10, h11, h12⟩ kk
          have z0 := h0.size
          exact ⟨bstep h0 kk, kcell kk (by omega) h1, kcell kk (by omega) h2, kcell kk (by omega) h3, kcell kk (by omega) h4, kcell kk (by omega) h5, kcell kk (by omega) h6, kcell kk (by omega) h7, kcell kk (by omega) h8, kcell kk (by omega) h9, kcell kk (by omega) h10, kcell kk (by omega) h11, kcell kk (by omega) h12⟩
        clear sev
        go_wp2_with fail
        go_region_held3 (fun w' => Below V.heap.size V w' ∧ w'.cell? ⟨G, 0, none⟩ = some (.int .i64 kz) ∧ w'.cell? ⟨G, 1, none⟩ = some (.bool bz) ∧ w'.cell? ⟨G, 2, none⟩ = some (.int .i64 mz) ∧ w'.cell? ⟨G, 3, none⟩ = some (.int .i64 sz) ∧ w'.cell? ⟨G, 4, none⟩ = some (.string tz) ∧ w'.cell? ⟨G, 5, none⟩ = some (.slice az lz cz) ∧ w'.cell? ⟨bl, o + j * 7 + 1, none⟩ = some (.int .i64 k') ∧ w'.cell? ⟨bl, o + j * 7 + 2, none⟩ = some (.bool b') ∧ w'.cell? ⟨bl, o + j * 7 + 3, none⟩ = some (.int .i64 m') ∧ w'.cell? ⟨bl, o + j * 7 + 4, none⟩ = some (.int .i64 s') ∧ w'.cell? ⟨bl, o + j * 7 + 5, none⟩ = some (.string t') ∧ w'.cell? ⟨bl, o + j * 7 + 6, none⟩ = some (.slice a' len' cap'))
          (first | exact unhide S0 | assumption | exact unhide SK _ _ (by assumption) k4)
          (first
            | (go_at_call 11; refine (unhide SM _ ?_ ?_).mono ?_; exact (unhide YI).below (And.left (by assumption)); exact (unhide HK).below (And.left (by assumption)); rintro e w4 ⟨rfl, k4⟩)
            | (go_at_call 13; refine (eknown_any _).mono ?_; rintro e w4 ⟨rfl, k4⟩))
        all_goals
          go_wp2_with fail
          go_ret
          exact ⟨rfl, bstep B3 (And.left (by assumption))⟩
      · have HR2 := hide (show lookT (envT (es.drop (j + 1))) (XT.tl t) = R by
          have := unhide HR
          rw [drop_consE hlt, hx] at this
          rw [← this]
          show _ = (if XT.tl n = XT.tl t then _ else _)
          rw [if_neg (fun e => hn (tl_eq.1 e))]
          rfl)
        have e1 : (n.toList == t.toList) = false := by simpa using hn
        clear HR hk hx sev
        go_wp2_with fail
        go_round
        case rel => exact ⟨j + 1, by omega, by go_num, HR2⟩
        case measure => simp [intOf]; omega
    · have hk0 : kz = 0 := by
        have h1 : R = nilV := by have := unhide HR; rw [List.drop_of_length_le (by omega)] at this; exact this.symm
        have h2 := congrArg kdV ((unhide YB).trans h1)
        exact h2
      subst hk0
      clear HR env3
      go_wp2_with fail
      refine (eknown_any _).mono ?_
      rintro e w4 ⟨rfl, k4⟩
      go_wp2_with fail
      go_ret
      exact ⟨rfl, bstep B3 k4⟩
end Go.Proofs.YtkjiifnepjoimabGreat

/- ValOrders' walk: values stand in one order. -/
import Derived.Test.YthccmlkcdinfdacValOrdersM
import Derived.Test.YthccmlkcdinfdacVKnown
import Derived.Test.YthccmlkcdinfdacVMay
import Derived.Test.YthccmlkcdinfdacVCmp
namespace Go.Proofs.Ythccmlkcdinfdac
open Go.RowKit
attribute [local go_sem ↓] Go.wp_at_zero Go.wp_at_succ

set_option maxHeartbeats 4000000 in
theorem valOrders_walk (x y z : VT) (w : World) (hin : x.In w) (hin' : y.In w) (hin'' : z.In w) :
    Calls Try.prog 3 #[x.val, y.val, z.val] w fun e w' => e = .returned (.bool true) ∧ Below w.heap.size w w' := by
  cases x with
  | none => exact absurd hin (by simp [VT.In])
  | mk k b m s t a len cap kid =>
  cases y with
  | none => exact absurd hin' (by simp [VT.In])
  | mk k' b' m' s' t' a' len' cap' kid' =>
  cases z with
  | none => exact absurd hin'' (by simp [VT.In])
  | mk k'' b'' m'' s'' t'' a'' len'' cap'' kid'' =>
    show Calls Try.prog 3 #[.agg #[.int .i64 k, .bool b, .int .i64 m, .int .i64 s, .string t, .slice a len cap], .agg #[.int .i64 k', .bool b', .int .i64 m', .int .i64 s', .string t', .slice a' len' cap'], .agg #[.int .i64 k'', .bool b'', .int .i64 m'', .int .i64 s'', .string t'', .slice a'' len'' cap'']] w _
    have b0 := below3 w (Obj.cells #[.int .i64 k, .bool b, .int .i64 m, .int .i64 s, .string t, .slice a len cap] 26) (Obj.cells #[.int .i64 k', .bool b', .int .i64 m', .int .i64 s', .string t', .slice a' len' cap'] 26) (Obj.cells #[.int .i64 k'', .bool b'', .int .i64 m'', .int .i64 s'', .string t'', .slice a'' len'' cap''] 26)
    have i1 := hin.below b0
    have i2 := hin'.below b0
    have i3 := hin''.below b0
    go_enter Try.func3, Try.ntmps3
    go_wp2_with fail
    refine (vmay3 (by simp) i1 i2 i3).mono ?_
    rintro e V ⟨⟨r, rfl, hr⟩, hb⟩
    have B0 := hide (bstep b0 hb)
    have HI1 := hide (i1.below hb)
    have HI2 := hide (i2.below hb)
    have HI3 := hide (i3.below hb)
    have z1 : w.heap.size + 2 < V.heap.size := by have := hb.size; simp at this; omega
    have x0 : V.cell? ⟨w.heap.size, 0, none⟩ = some (.int .i64 k) := kcell hb (by simp; try omega) (by go_simp)
    have x1 : V.cell? ⟨w.heap.size, 1, none⟩ = some (.bool b) := kcell hb (by simp; try omega) (by go_simp)
    have x2 : V.cell? ⟨w.heap.size, 2, none⟩ = some (.int .i64 m) := kcell hb (by simp; try omega) (by go_simp)
    have x3 : V.cell? ⟨w.heap.size, 3, none⟩ = some (.int .i64 s) := kcell hb (by simp; try omega) (by go_simp)
    have x4 : V.cell? ⟨w.heap.size, 4, none⟩ = some (.string t) := kcell hb (by simp; try omega) (by go_simp)
    have x5 : V.cell? ⟨w.heap.size, 5, none⟩ = some (.slice a len cap) := kcell hb (by simp; try omega) (by go_simp)
    have x6 : V.cell? ⟨w.heap.size + 1, 0, none⟩ = some (.int .i64 k') := kcell hb (by simp; try omega) (by go_simp)
    have x7 : V.cell? ⟨w.heap.size + 1, 1, none⟩ = some (.bool b') := kcell hb (by simp; try omega) (by go_simp)
    have x8 : V.cell? ⟨w.heap.size + 1, 2, none⟩ = some (.int .i64 m') := kcell hb (by simp; try omega) (by go_simp)
    have x9 : V.cell? ⟨w.heap.size + 1, 3, none⟩ = some (.int .i64 s') := kcell hb (by simp; try omega) (by go_simp)
    have x10 : V.cell? ⟨w.heap.size + 1, 4, none⟩ = some (.string t') := kcell hb (by simp; try omega) (by go_simp)
    have x11 : V.cell? ⟨w.heap.size + 1, 5, none⟩ = some (.slice a' len' cap') := kcell hb (by simp; try omega) (by go_simp)
    have x12 : V.cell? ⟨w.heap.size + 2, 0, none⟩ = some (.int .i64 k'') := kcell hb (by simp; try omega) (by go_simp)
    have x13 : V.cell? ⟨w.heap.size + 2, 1, none⟩ = some (.bool b'') := kcell hb (by simp; try omega) (by go_simp)
    have x14 : V.cell? ⟨w.heap.size + 2, 2, none⟩ = some (.int .i64 m'') := kcell hb (by simp; try omega) (by go_simp)
    have x15 : V.cell? ⟨w.heap.size + 2, 3, none⟩ = some (.int .i64 s'') := kcell hb (by simp; try omega) (by go_simp)
    have x16 : V.cell? ⟨w.heap.size + 2, 4, none⟩ = some (.string t'') := kcell hb (by simp; try omega) (by go_simp)
    have x17 : V.cell? ⟨w.heap.size + 2, 5, none⟩ = some (.slice a'' len'' cap'') := kcell hb (by simp; try omega) (by go_simp)
    clear hb b0 i1 i2 i3 hin hin' hin''
    cases r
    · clear hr
      go_wp2_with fail
      go_ret
      exact ⟨rfl, unhide B0⟩
    obtain ⟨hx, hy, hz⟩ := hr rfl
    have c1 := fun w h h' => vcmp_any (VT.mk k b m s t a len cap kid) (VT.mk k' b' m' s' t' a' len' cap' kid') w hx hy h h'
    have c2 := fun w h h' => vcmp_any (VT.mk k' b' m' s' t' a' len' cap' kid') (VT.mk k'' b'' m'' s'' t'' a'' len'' cap'' kid'') w hy hz h h'
    have c3 := fun w h h' => vcmp_any (VT.mk k b m s t a len cap kid) (VT.mk k'' b'' m'' s'' t'' a'' len'' cap'' kid'') w hx hz h h'
    have c4 := fun w h h' => vcmp_any (VT.mk k' b' m' s' t' a' len' cap' kid') (VT.mk k b m s t a len cap kid) w hy hx h h'
    have c5 := fun w h h' => vcmp_any (VT.mk k b m s t a len cap kid) (VT.mk k b m s t a len cap kid) w hx hx h h'
    have c6 := fun w h h' => same_any (VT.mk k b m s t a len cap kid) (VT.mk k' b' m' s' t' a' len' cap' kid') w h h'
    rw [cmp_flip] at c4
    rw [cmp_self] at c5
    have bd := cmp_bds (VT.mk k b m s t a len cap kid) (VT.mk k' b' m' s' t' a' len' cap' kid')
    have tr := cmp_trans (VT.mk k b m s t a len cap kid) (VT.mk k' b' m' s' t' a' len' cap' kid') (VT.mk k'' b'' m'' s'' t'' a'' len'' cap'' kid'') 2 2 2 hx hy hz
    have zs := cmp_zero_same (VT.mk k b m s t a len cap kid) (VT.mk k' b' m' s' t' a' len' cap' kid') 2 2 hx hy
    have bd3 := cmp_bds (VT.mk k b m s t a len cap kid) (VT.mk k'' b'' m'' s'' t'' a'' len'' cap'' kid'')
    generalize (VT.mk k b m s t a len cap kid).cmp (VT.mk k' b' m' s' t' a' len' cap' kid') = R1 at *
    generalize (VT.mk k' b' m' s' t' a' len' cap' kid').cmp (VT.mk k'' b'' m'' s'' t'' a'' len'' cap'' kid'') = R2 at *
    generalize (VT.mk k b m s t a len cap kid).cmp (VT.mk k'' b'' m'' s'' t'' a'' len'' cap'' kid'') = R3 at *
    generalize (VT.mk k b m s t a len cap kid).same (VT.mk k' b' m' s' t' a' len' cap' kid') = RS at *
    have H1 := hide c1; have H2 := hide c2; have H3 := hide c3; have H4 := hide c4; have H5 := hide c5; have H6 := hide c6
    have TR := hide tr; have ZS := hide zs
    clear c1 c2 c3 c4 c5 c6 tr zs hr hx hy hz
    obtain ⟨l1, u1⟩ := bd
    obtain ⟨l3, u3⟩ := bd3
    generalize hB : w.heap.size = B at *
    have HB := hide hB
    clear hB
    have S0 : Hid (Below V.heap.size V V.drew ∧ V.drew.cell? ⟨B, 0, none⟩ = some (.int .i64 k) ∧ V.drew.cell? ⟨B, 1, none⟩ = some (.bool b) ∧ V.drew.cell? ⟨B, 2, none⟩ = some (.int .i64 m) ∧ V.drew.cell? ⟨B, 3, none⟩ = some (.int .i64 s) ∧ V.drew.cell? ⟨B, 4, none⟩ = some (.string t) ∧ V.drew.cell? ⟨B, 5, none⟩ = some (.slice a len cap) ∧ V.drew.cell? ⟨B + 1, 0, none⟩ = some (.int .i64 k') ∧ V.drew.cell? ⟨B + 1, 1, none⟩ = some (.bool b') ∧ V.drew.cell? ⟨B + 1, 2, none⟩ = some (.int .i64 m') ∧ V.drew.cell? ⟨B + 1, 3, none⟩ = some (.int .i64 s') ∧ V.drew.cell? ⟨B + 1, 4, none⟩ = some (.string t') ∧ V.drew.cell? ⟨B + 1, 5, none⟩ = some (.slice a' len' cap') ∧ V.drew.cell? ⟨B + 2, 0, none⟩ = some (.int .i64 k'') ∧ V.drew.cell? ⟨B + 2, 1, none⟩ = some (.bool b'') ∧ V.drew.cell? ⟨B + 2, 2, none⟩ = some (.int .i64 m'') ∧ V.drew.cell? ⟨B + 2, 3, none⟩ = some (.int .i64 s'') ∧ V.drew.cell? ⟨B + 2, 4, none⟩ = some (.string t'') ∧ V.drew.cell? ⟨B + 2, 5, none⟩ = some (.slice a'' len'' cap'')) := ⟨(Below.refl _ _).drew, x0, x1, x2, x3, x4, x5, x6, x7, x8, x9, x10, x11, x12, x13, x14, x15, x16, x17⟩
    have SK : Hid (∀ x w', (Below V.heap.size V x ∧ x.cell? ⟨B, 0, none⟩ = some (.int .i64 k) ∧ x.cell? ⟨B, 1, none⟩ = some (.bool b) ∧ x.cell? ⟨B, 2, none⟩ = some (.int .i64 m) ∧ x.cell? ⟨B, 3, none⟩ = some (.int .i64 s) ∧ x.cell? ⟨B, 4, none⟩ = some (.string t) ∧ x.cell? ⟨B, 5, none⟩ = some (.slice a len cap) ∧ x.cell? ⟨B + 1, 0, none⟩ = some (.int .i64 k') ∧ x.cell? ⟨B + 1, 1, none⟩ = some (.bool b') ∧ x.cell? ⟨B + 1, 2, none⟩ = some (.int .i64 m') ∧ x.cell? ⟨B + 1, 3, none⟩ = some (.int .i64 s') ∧ x.cell? ⟨B + 1, 4, none⟩ = some (.string t') ∧ x.cell? ⟨B + 1, 5, none⟩ = some (.slice a' len' cap') ∧ x.cell? ⟨B + 2, 0, none⟩ = some (.int .i64 k'') ∧ x.cell? ⟨B + 2, 1, none⟩ = some (.bool b'') ∧ x.cell? ⟨B + 2, 2, none⟩ = some (.int .i64 m'') ∧ x.cell? ⟨B + 2, 3, none⟩ = some (.int .i64 s'') ∧ x.cell? ⟨B + 2, 4, none⟩ = some (.string t'') ∧ x.cell? ⟨B + 2, 5, none⟩ = some (.slice a'' len'' cap'')) → Below x.heap.size x w' → (Below V.heap.size V w' ∧ w'.cell? ⟨B, 0, none⟩ = some (.int .i64 k) ∧ w'.cell? ⟨B, 1, none⟩ = some (.bool b) ∧ w'.cell? ⟨B, 2, none⟩ = some (.int .i64 m) ∧ w'.cell? ⟨B, 3, none⟩ = some (.int .i64 s) ∧ w'.cell? ⟨B, 4, none⟩ = some (.string t) ∧ w'.cell? ⟨B, 5, none⟩ = some (.slice a len cap) ∧ w'.cell? ⟨B + 1, 0, none⟩ = some (.int .i64 k') ∧ w'.cell? ⟨B + 1, 1, none⟩ = some (.bool b') ∧ w'.cell? ⟨B + 1, 2, none⟩ = some (.int .i64 m') ∧ w'.cell? ⟨B + 1, 3, none⟩ = some (.int .i64 s') ∧ w'.cell? ⟨B + 1, 4, none⟩ = some (.string t') ∧ w'.cell? ⟨B + 1, 5, none⟩ = some (.slice a' len' cap') ∧ w'.cell? ⟨B + 2, 0, none⟩ = some (.int .i64 k'') ∧ w'.cell? ⟨B + 2, 1, none⟩ = some (.bool b'') ∧ w'.cell? ⟨B + 2, 2, none⟩ = some (.int .i64 m'') ∧ w'.cell? ⟨B + 2, 3, none⟩ = some (.int .i64 s'') ∧ w'.cell? ⟨B + 2, 4, none⟩ = some (.string t'') ∧ w'.cell? ⟨B + 2, 5, none⟩ = some (.slice a'' len'' cap''))) := by
      rintro x w' ⟨h0, h1, h2, h3, h4, h5, h6, h7, h8, h9, h10, h11, h12, h13, h14, h15, h16, h17, h18⟩ kk
      have z0 := h0.size
      exact ⟨bstep h0 kk, kcell kk (by omega) h1, kcell kk (by omega) h2, kcell kk (by omega) h3, kcell kk (by omega) h4, kcell kk (by omega) h5, kcell kk (by omega) h6, kcell kk (by omega) h7, kcell kk (by omega) h8, kcell kk (by omega) h9, kcell kk (by omega) h10, kcell kk (by omega) h11, kcell kk (by omega) h12, kcell kk (by omega) h13, kcell kk (by omega) h14, kcell kk (by omega) h15, kcell kk (by omega) h16, kcell kk (by omega) h17, kcell kk (by omega) h18⟩
    go_wp2_with fail
    go_region_held3 (fun w' => Below V.heap.size V w' ∧ w'.cell? ⟨B, 0, none⟩ = some (.int .i64 k) ∧ w'.cell? ⟨B, 1, none⟩ = some (.bool b) ∧ w'.cell? ⟨B, 2, none⟩ = some (.int .i64 m) ∧ w'.cell? ⟨B, 3, none⟩ = some (.int .i64 s) ∧ w'.cell? ⟨B, 4, none⟩ = some (.string t) ∧ w'.cell? ⟨B, 5, none⟩ = some (.slice a len cap) ∧ w'.cell? ⟨B + 1, 0, none⟩ = some (.int .i64 k') ∧ w'.cell? ⟨B + 1, 1, none⟩ = some (.bool b') ∧ w'.cell? ⟨B + 1, 2, none⟩ = some (.int .i64 m') ∧ w'.cell? ⟨B + 1, 3, none⟩ = some (.int .i64 s') ∧ w'.cell? ⟨B + 1, 4, none⟩ = some (.string t') ∧ w'.cell? ⟨B + 1, 5, none⟩ = some (.slice a' len' cap') ∧ w'.cell? ⟨B + 2, 0, none⟩ = some (.int .i64 k'') ∧ w'.cell? ⟨B + 2, 1, none⟩ = some (.bool b'') ∧ w'.cell? ⟨B + 2, 2, none⟩ = some (.int .i64 m'') ∧ w'.cell? ⟨B + 2, 3, none⟩ = some (.int .i64 s'') ∧ w'.cell? ⟨B + 2, 4, none⟩ = some (.string t'') ∧ w'.cell? ⟨B + 2, 5, none⟩ = some (.slice a'' len'' cap''))
      (first | exact unhide S0 | assumption | exact unhide SK _ _ (by assumption) k4)
      (first | (go_at_call_of 9 ([.agg #[.int .i64 k, .bool b, .int .i64 m, .int .i64 s, .string t, .slice a len cap], .agg #[.int .i64 k', .bool b', .int .i64 m', .int .i64 s', .string t', .slice a' len' cap']] : List Value); refine (unhide H1 _ ?_ ?_).mono ?_; exact (unhide HI1).below (And.left (by assumption)); exact (unhide HI2).below (And.left (by assumption)); rintro e w4 ⟨rfl, k4⟩) | (go_at_call_of 9 ([.agg #[.int .i64 k', .bool b', .int .i64 m', .int .i64 s', .string t', .slice a' len' cap'], .agg #[.int .i64 k'', .bool b'', .int .i64 m'', .int .i64 s'', .string t'', .slice a'' len'' cap'']] : List Value); refine (unhide H2 _ ?_ ?_).mono ?_; exact (unhide HI2).below (And.left (by assumption)); exact (unhide HI3).below (And.left (by assumption)); rintro e w4 ⟨rfl, k4⟩) | (go_at_call_of 9 ([.agg #[.int .i64 k, .bool b, .int .i64 m, .int .i64 s, .string t, .slice a len cap], .agg #[.int .i64 k'', .bool b'', .int .i64 m'', .int .i64 s'', .string t'', .slice a'' len'' cap'']] : List Value); refine (unhide H3 _ ?_ ?_).mono ?_; exact (unhide HI1).below (And.left (by assumption)); exact (unhide HI3).below (And.left (by assumption)); rintro e w4 ⟨rfl, k4⟩))
    all_goals
      have h3 : R1 = -1 ∨ R1 = 0 ∨ R1 = 1 := by omega
      rcases h3 with rfl | rfl | rfl
      · by_cases h2 : R2 ≤ 0
        · have h4 := unhide TR (by omega) h2
          go_wp2_with fail
          refine (unhide H4 _ ?_ ?_).mono ?_
          · exact (unhide HI2).below (And.left (by assumption))
          · exact (unhide HI1).below (And.left (by assumption))
          rintro e w5 ⟨rfl, k5⟩
          have S5 := unhide SK _ _ (by assumption) k5
          clear k5
          go_wp2_with fail
          refine (unhide H5 _ ?_ ?_).mono ?_
          · exact (unhide HI1).below S5.1
          · exact (unhide HI1).below S5.1
          rintro e w6 ⟨rfl, k6⟩
          have S6 := unhide SK _ _ S5 k6
          clear k6 S5
          go_wp2_with fail
          refine (known_any _).mono ?_
          rintro e w8 ⟨rfl, k8⟩
          go_wp2_with fail
          go_ret
          refine ⟨rfl, ?_⟩
          have b := unhide B0
          rw [← unhide HB] at b
          exact bstep b (bstep S6.1 k8)
        · go_wp2_with fail
          refine (unhide H4 _ ?_ ?_).mono ?_
          · exact (unhide HI2).below (And.left (by assumption))
          · exact (unhide HI1).below (And.left (by assumption))
          rintro e w5 ⟨rfl, k5⟩
          have S5 := unhide SK _ _ (by assumption) k5
          clear k5
          go_wp2_with fail
          refine (unhide H5 _ ?_ ?_).mono ?_
          · exact (unhide HI1).below S5.1
          · exact (unhide HI1).below S5.1
          rintro e w6 ⟨rfl, k6⟩
          have S6 := unhide SK _ _ S5 k6
          clear k6 S5
          go_wp2_with fail
          refine (known_any _).mono ?_
          rintro e w8 ⟨rfl, k8⟩
          go_wp2_with fail
          go_ret
          refine ⟨rfl, ?_⟩
          have b := unhide B0
          rw [← unhide HB] at b
          exact bstep b (bstep S6.1 k8)
      · by_cases h2 : R2 ≤ 0
        · have h4 := unhide TR (by omega) h2
          go_wp2_with fail
          refine (unhide H4 _ ?_ ?_).mono ?_
          · exact (unhide HI2).below (And.left (by assumption))
          · exact (unhide HI1).below (And.left (by assumption))
          rintro e w5 ⟨rfl, k5⟩
          have S5 := unhide SK _ _ (by assumption) k5
          clear k5
          go_wp2_with fail
          refine (unhide H5 _ ?_ ?_).mono ?_
          · exact (unhide HI1).below S5.1
          · exact (unhide HI1).below S5.1
          rintro e w6 ⟨rfl, k6⟩
          have S6 := unhide SK _ _ S5 k6
          clear k6 S5
          go_wp2_with fail
          refine (unhide H6 _ ?_ ?_).mono ?_
          · exact (unhide HI1).below S6.1
          · exact (unhide HI2).below S6.1
          rintro e w7 ⟨rfl, k7⟩
          rw [unhide ZS (by first | rfl | trivial)]
          have S7 := unhide SK _ _ S6 k7
          clear k7 S6
          go_wp2_with fail
          refine (known_any _).mono ?_
          rintro e w8 ⟨rfl, k8⟩
          go_wp2_with fail
          go_ret
          refine ⟨rfl, ?_⟩
          have b := unhide B0
          rw [← unhide HB] at b
          exact bstep b (bstep S7.1 k8)
        · go_wp2_with fail
          refine (unhide H4 _ ?_ ?_).mono ?_
          · exact (unhide HI2).below (And.left (by assumption))
          · exact (unhide HI1).below (And.left (by assumption))
          rintro e w5 ⟨rfl, k5⟩
          have S5 := unhide SK _ _ (by assumption) k5
          clear k5
          go_wp2_with fail
          refine (unhide H5 _ ?_ ?_).mono ?_
          · exact (unhide HI1).below S5.1
          · exact (unhide HI1).below S5.1
          rintro e w6 ⟨rfl, k6⟩
          have S6 := unhide SK _ _ S5 k6
          clear k6 S5
          go_wp2_with fail
          refine (unhide H6 _ ?_ ?_).mono ?_
          · exact (unhide HI1).below S6.1
          · exact (unhide HI2).below S6.1
          rintro e w7 ⟨rfl, k7⟩
          rw [unhide ZS (by first | rfl | trivial)]
          have S7 := unhide SK _ _ S6 k7
          clear k7 S6
          go_wp2_with fail
          refine (known_any _).mono ?_
          rintro e w8 ⟨rfl, k8⟩
          go_wp2_with fail
          go_ret
          refine ⟨rfl, ?_⟩
          have b := unhide B0
          rw [← unhide HB] at b
          exact bstep b (bstep S7.1 k8)
      · go_wp2_with fail
        refine (unhide H4 _ ?_ ?_).mono ?_
        · exact (unhide HI2).below (And.left (by assumption))
        · exact (unhide HI1).below (And.left (by assumption))
        rintro e w5 ⟨rfl, k5⟩
        have S5 := unhide SK _ _ (by assumption) k5
        clear k5
        go_wp2_with fail
        refine (unhide H5 _ ?_ ?_).mono ?_
        · exact (unhide HI1).below S5.1
        · exact (unhide HI1).below S5.1
        rintro e w6 ⟨rfl, k6⟩
        have S6 := unhide SK _ _ S5 k6
        clear k6 S5
        go_wp2_with fail
        refine (known_any _).mono ?_
        rintro e w8 ⟨rfl, k8⟩
        go_wp2_with fail
        go_ret
        refine ⟨rfl, ?_⟩
        have b := unhide B0
        rw [← unhide HB] at b
        exact bstep b (bstep S6.1 k8)
end Go.Proofs.Ythccmlkcdinfdac

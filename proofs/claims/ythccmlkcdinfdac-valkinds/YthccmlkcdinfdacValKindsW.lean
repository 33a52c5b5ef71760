/- ValKinds' walk: values of unlike kinds stand as their kinds do. -/
import Derived.Test.YthccmlkcdinfdacVKnown
import Derived.Test.YthccmlkcdinfdacVMay
import Derived.Test.YthccmlkcdinfdacVCmp
import Derived.Test.YthccmlkcdinfdacVRCmp
namespace Go.Proofs.Ythccmlkcdinfdac
open Go.RowKit

set_option maxHeartbeats 2000000 in
theorem valKinds_walk (x y : VT) (w : World) (hin : x.In w) (hin' : y.In w) :
    Calls Try.prog 7 #[x.val, y.val] w fun e w' => e = .returned (.bool true) ∧ Below w.heap.size w w' := by
  cases x with
  | none => exact absurd hin (by simp [VT.In])
  | mk k b m s t a len cap kid =>
    cases y with
    | none => exact absurd hin' (by simp [VT.In])
    | mk k' b' m' s' t' a' len' cap' kid' =>
      show Calls Try.prog 7 #[.agg #[.int .i64 k, .bool b, .int .i64 m, .int .i64 s, .string t, .slice a len cap], .agg #[.int .i64 k', .bool b', .int .i64 m', .int .i64 s', .string t', .slice a' len' cap']] w _
      have b0 := below2 w (Obj.cells #[.int .i64 k, .bool b, .int .i64 m, .int .i64 s, .string t, .slice a len cap] 26) (Obj.cells #[.int .i64 k', .bool b', .int .i64 m', .int .i64 s', .string t', .slice a' len' cap'] 26)
      go_enter Try.func7, Try.ntmps7
      go_wp2_with fail
      refine (vmay2 (by simp) (hin.below b0) (hin'.below b0)).mono ?_
      rintro e V ⟨⟨r, rfl, hr⟩, hb⟩
      have hinV := (hin.below b0).below hb
      have hinV' := (hin'.below b0).below hb
      obtain ⟨c1, -⟩ := bcell hb
      cases r
      · go_wp2_with fail
        go_ret
        exact ⟨rfl, bstep b0 hb⟩
      obtain ⟨hx, hy⟩ := hr rfl
      by_cases hk : k = k'
      · subst hk
        go_wp2_with fail
        go_ret
        exact ⟨rfl, bstep b0 hb⟩
      have e1 : (k == k') = false := by simpa using hk
      have hc : (VT.mk k b m s t a len cap kid).cmp (VT.mk k' b' m' s' t' a' len' cap' kid') = cmpI k k' := by unfold VT.cmp; rw [if_pos hk]
      have H1 := hide (fun w h h' => vcmp_any _ _ w hx hy h h')
      have H2 := hide (fun w h h' => vequal_any _ _ w hx hy h h')
      have H3 := hide (fun w h h' => rEqual_any _ _ w hx hy h h')
      have HI := hide hinV
      have HI' := hide hinV'
      have B0 := hide (bstep b0 hb)
      by_cases hlt : k < k'
      · have hc1 : (VT.mk k b m s t a len cap kid).cmp (VT.mk k' b' m' s' t' a' len' cap' kid') = -1 := by rw [hc]; unfold cmpI; rw [if_pos hlt]
        rw [hc1] at H1 H2 H3
        clear hc hc1 hx hy hinV hinV' hr hin hin' b0 hk
        go_wp2_with fail
        refine (unhide H1 _ (unhide HI) (unhide HI')).mono ?_
        rintro e w1 ⟨rfl, k1⟩
        obtain ⟨d1, -⟩ := bcell (bstep hb k1)
        go_wp2_with fail
        refine (unhide H2 _ ((unhide HI).below k1) ((unhide HI').below k1)).mono ?_
        rintro e w2 ⟨rfl, k2⟩
        obtain ⟨d2, -⟩ := bcell (bstep hb (bstep k1 k2))
        go_wp2_with fail
        refine (unhide H3 _ ((unhide HI).below (bstep k1 k2)) ((unhide HI').below (bstep k1 k2))).mono ?_
        rintro e w3 ⟨rfl, k3⟩
        go_wp2_with fail
        refine (known_any _).mono ?_
        rintro e w4 ⟨rfl, k4⟩
        go_wp2_with fail
        go_ret
        exact ⟨rfl, bstep (unhide B0) (bstep (bstep k1 k2) (bstep k3 k4))⟩
      · have hgt : k' < k := by omega
        have hc1 : (VT.mk k b m s t a len cap kid).cmp (VT.mk k' b' m' s' t' a' len' cap' kid') = 1 := by rw [hc]; unfold cmpI; rw [if_neg hlt, if_pos hgt]
        rw [hc1] at H1 H2 H3
        clear hc hc1 hx hy hinV hinV' hr hin hin' b0 hk
        go_wp2_with fail
        refine (unhide H1 _ (unhide HI) (unhide HI')).mono ?_
        rintro e w1 ⟨rfl, k1⟩
        obtain ⟨d1, -⟩ := bcell (bstep hb k1)
        go_wp2_with fail
        refine (unhide H2 _ ((unhide HI).below k1) ((unhide HI').below k1)).mono ?_
        rintro e w2 ⟨rfl, k2⟩
        obtain ⟨d2, -⟩ := bcell (bstep hb (bstep k1 k2))
        go_wp2_with fail
        refine (unhide H3 _ ((unhide HI).below (bstep k1 k2)) ((unhide HI').below (bstep k1 k2))).mono ?_
        rintro e w3 ⟨rfl, k3⟩
        go_wp2_with fail
        refine (known_any _).mono ?_
        rintro e w4 ⟨rfl, k4⟩
        go_wp2_with fail
        go_ret
        exact ⟨rfl, bstep (unhide B0) (bstep (bstep k1 k2) (bstep k3 k4))⟩
end Go.Proofs.Ythccmlkcdinfdac

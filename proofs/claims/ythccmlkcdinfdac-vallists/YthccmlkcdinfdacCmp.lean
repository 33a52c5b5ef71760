/- The contract of dec's Cmp, for decimals that may be. -/
import Derived.Test.YthccmlkcdinfdacAlign
namespace Go.Proofs.Ythccmlkcdinfdac
open Go.RowKit

set_option maxHeartbeats 800000 in
theorem cmp_any (m s n t : Int) (w : World) (ha : isB m s = true) (hb : isB n t = true) :
    Calls Try.prog 33 #[.agg #[.int .i64 m, .int .i64 s], .agg #[.int .i64 n, .int .i64 t]] w fun e w' => e = .returned (.int .i64 (cmpI (upM m s (max s t)) (upM n t (max s t)))) ∧ Below w.heap.size w w' := by
  generalize hx : upM m s (max s t) = x
  generalize hy : upM n t (max s t) = y
  generalize hf : cmpI x y = f
  have HA := hide ha; have HB := hide hb; have HX := hide hx; have HY := hide hy
  clear ha hb hx hy
  by_cases c1 : x < y
  · have FIN := hide (show f = -1 by rw [← hf]; exact if_pos c1)
    clear hf
    go_enter Try.func33, Try.ntmps33
    go_wp2_with fail
    refine (is_any _ _ _).mono ?_
    rintro e w1 ⟨rfl, b1⟩
    rw [unhide HA]
    obtain ⟨c1, f1⟩ := bcell b1
    go_wp2_with fail
    refine (is_any _ _ _).mono ?_
    rintro e w2 ⟨rfl, k2⟩
    rw [unhide HB]
    have b2 := bstep b1 k2
    clear c1 f1 b1 k2
    obtain ⟨c2, f2⟩ := bcell b2
    go_wp2_with fail
    refine (align_any _ _ _ _ _ (unhide HA) (unhide HB)).mono ?_
    rintro e w3 ⟨rfl, k3⟩
    have b3 := bstep b2 k3
    clear c2 f2 b2 k3
    rw [unhide HX, unhide HY]
    clear HX HY HA HB
    go_wp2
    go_ret
    exact ⟨ret_int (unhide FIN).symm, bstep (below2 w _ _) b3⟩
  · by_cases c2 : y < x
    · have FIN := hide (show f = 1 by rw [← hf]; unfold cmpI; rw [if_neg c1, if_pos c2])
      clear hf
      go_enter Try.func33, Try.ntmps33
      go_wp2_with fail
      refine (is_any _ _ _).mono ?_
      rintro e w1 ⟨rfl, b1⟩
      rw [unhide HA]
      obtain ⟨c1, f1⟩ := bcell b1
      go_wp2_with fail
      refine (is_any _ _ _).mono ?_
      rintro e w2 ⟨rfl, k2⟩
      rw [unhide HB]
      have b2 := bstep b1 k2
      clear c1 f1 b1 k2
      obtain ⟨c2, f2⟩ := bcell b2
      go_wp2_with fail
      refine (align_any _ _ _ _ _ (unhide HA) (unhide HB)).mono ?_
      rintro e w3 ⟨rfl, k3⟩
      have b3 := bstep b2 k3
      clear c2 f2 b2 k3
      rw [unhide HX, unhide HY]
      clear HX HY HA HB
      go_wp2
      go_ret
      exact ⟨ret_int (unhide FIN).symm, bstep (below2 w _ _) b3⟩
    · have FIN := hide (show f = 0 by rw [← hf]; unfold cmpI; rw [if_neg c1, if_neg c2])
      clear hf
      go_enter Try.func33, Try.ntmps33
      go_wp2_with fail
      refine (is_any _ _ _).mono ?_
      rintro e w1 ⟨rfl, b1⟩
      rw [unhide HA]
      obtain ⟨c1, f1⟩ := bcell b1
      go_wp2_with fail
      refine (is_any _ _ _).mono ?_
      rintro e w2 ⟨rfl, k2⟩
      rw [unhide HB]
      have b2 := bstep b1 k2
      clear c1 f1 b1 k2
      obtain ⟨c2, f2⟩ := bcell b2
      go_wp2_with fail
      refine (align_any _ _ _ _ _ (unhide HA) (unhide HB)).mono ?_
      rintro e w3 ⟨rfl, k3⟩
      have b3 := bstep b2 k3
      clear c2 f2 b2 k3
      rw [unhide HX, unhide HY]
      clear HX HY HA HB
      go_wp2
      go_ret
      exact ⟨ret_int (unhide FIN).symm, bstep (below2 w _ _) b3⟩

end Go.Proofs.Ythccmlkcdinfdac

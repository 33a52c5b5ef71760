/- VRLogic: laid together. -/
import Derived.Test.YtfdimdjmnfdecaaGreatKAB
set_option linter.unusedVariables false
set_option linter.unusedSimpArgs false
set_option maxHeartbeats 8000000
namespace Go.Proofs.YtfdimdjmnfdecaaGreat
open Go.RowKit
theorem rtruth_any (k : Int) (b : Bool) (m s : Int) (t : ByteArray) (a : Option Addr) (len cap : Nat) (w : World) :
  Calls Tryz.prog 56 #[.agg #[.int .i64 k, .bool b, .int .i64 m, .int .i64 s, .string t, .slice a len cap]] w fun e w' => e = .returned (.bool (trB k b)) ∧ Below w.heap.size w w' := by
 unfold trB
 by_cases h : k = 1
 ·subst h
  go_enter Tryz.func56, Tryz.ntmps56
  go_wp2_with fail
  go_ret
  exact ⟨ret_bool (by simp), below1 _ _⟩
 ·have e1 : (k == 1) = false := by simpa using h
  have H := hide h
  clear h
  go_enter Tryz.func56, Tryz.ntmps56
  go_wp2_with fail
  go_ret
  exact ⟨ret_bool (by have h := unhide H; simp [h]), below1 _ _⟩
theorem runtruth_any (k : Int) (b : Bool) (m s : Int) (t : ByteArray) (a : Option Addr) (len cap : Nat) (w : World) :
  Calls Tryz.prog 89 #[.agg #[.int .i64 k, .bool b, .int .i64 m, .int .i64 s, .string t, .slice a len cap]] w fun e w' => e = .returned (.bool (unB k b)) ∧ Below w.heap.size w w' := by
 unfold unB
 by_cases h : k = 1
 ·subst h
  go_enter Tryz.func89, Tryz.ntmps89
  go_wp2_with fail
  go_ret
  exact ⟨ret_bool (by simp), below1 _ _⟩
 ·have e1 : (k == 1) = false := by simpa using h
  have H := hide h
  clear h
  go_enter Tryz.func89, Tryz.ntmps89
  go_wp2_with fail
  go_ret
  exact ⟨ret_bool (by have h := unhide H; simp [h]), below1 _ _⟩
theorem rof_any (b : Bool) (w : World) :
  Calls Tryz.prog 44 #[.bool b] w fun e w' => e = .returned (tval 1 b) ∧ Below w.heap.size w w' := by
 go_enter Tryz.func44, Tryz.ntmps44
 go_wp2_with fail
 exact bodyPost_ret (v := tval 1 b) (by simp [results, Tryz.results44, go_sem, tval]) rfl ⟨rfl, below1 _ _⟩
theorem rnot_any (k : Int) (b : Bool) (m s : Int) (t : ByteArray) (a : Option Addr) (len cap : Nat) (w : World) :
  Calls Tryz.prog 65 #[.agg #[.int .i64 k, .bool b, .int .i64 m, .int .i64 s, .string t, .slice a len cap]] w fun e w' => e = .returned (tval (notK k) (notB k b)) ∧ Below w.heap.size w w' := by
 by_cases h : k = 1
 ·subst h
  have e1 : notK 1 = 1 := rfl
  have e2 : notB 1 b = !b := rfl
  rw [e1, e2]
  clear e1 e2
  go_enter Tryz.func65, Tryz.ntmps65
  go_wp2_with fail
  refine (rof_any _ _).mono ?_
  rintro e w1 ⟨rfl, k1⟩
  unfold tval
  obtain ⟨c1, f1⟩ := bcell k1
  have z1 := k1.size
  simp at z1
  have z2 : w.heap.size + 1 < w1.heap.size := by omega
  go_wp2_with fail
  exact bodyPost_ret (v := tval 1 !b) (by simp [results, Tryz.results65, go_sem, tval, c1]) rfl ⟨rfl, set6 (bstep (below2 _ _ _) k1) (by omega) _ _ _ _ _ _⟩
 ·have e1 : (k == 1) = false := by simpa using h
  have n1 : (k != 1) = true := by simpa using h
  have e2 : notK k = 0 := if_neg h
  have e3 : notB k b = false := if_neg h
  rw [e2, e3]
  clear h e2 e3
  go_enter Tryz.func65, Tryz.ntmps65
  go_wp2_with fail
  exact bodyPost_ret (v := tval 0 false) (by simp [results, Tryz.results65, go_sem, tval]) rfl ⟨rfl, below2 _ _ _⟩
theorem rand_any (k : Int) (b : Bool) (m s : Int) (t : ByteArray) (a : Option Addr) (len cap : Nat) (k' : Int) (b' : Bool) (m' s' : Int) (t' : ByteArray) (a' : Option Addr) (len' cap' : Nat) (w : World) :
  Calls Tryz.prog 58 #[.agg #[.int .i64 k, .bool b, .int .i64 m, .int .i64 s, .string t, .slice a len cap], .agg #[.int .i64 k', .bool b', .int .i64 m', .int .i64 s', .string t', .slice a' len' cap']] w fun e w' => e = .returned (tval (andK (unB k b) (unB k' b') (trB k b) (trB k' b')) (andB (unB k b) (unB k' b') (trB k b) (trB k' b'))) ∧ Below w.heap.size w w' := by
 generalize hu1 : unB k b = u1
 generalize hu2 : unB k' b' = u2
 generalize hy1 : trB k b = y1
 generalize hy2 : trB k' b' = y2
 have U1 := hide hu1; have U2 := hide hu2; have Y1 := hide hy1; have Y2 := hide hy2
 clear hu1 hu2 hy1 hy2
 cases u1
 ·skip
  cases u2
  ·skip
   cases y1
   ·skip
    show Calls _ _ _ _ fun e w' => e = .returned (tval 0 false) ∧ _
    go_enter Tryz.func58, Tryz.ntmps58
    go_wp2_with fail
    refine (runtruth_any _ _ _ _ _ _ _ _ _).mono ?_
    rintro e w1 ⟨rfl, j1⟩
    rw [unhide U1]
    have q1 := j1
    obtain ⟨c1, f1⟩ := bcell q1
    have z1 : w.heap.size + 2 < w1.heap.size := by have := q1.size; simp at this; omega
    go_wp2_with fail
    refine (runtruth_any _ _ _ _ _ _ _ _ _).mono ?_
    rintro e w2 ⟨rfl, j2⟩
    rw [unhide U2]
    have q2 := bstep q1 j2
    clear c1 f1 z1 q1 j2
    obtain ⟨c2, f2⟩ := bcell q2
    have z2 : w.heap.size + 2 < w2.heap.size := by have := q2.size; simp at this; omega
    go_wp2_with fail
    refine (rtruth_any _ _ _ _ _ _ _ _ _).mono ?_
    rintro e w3 ⟨rfl, j3⟩
    rw [unhide Y1]
    have q3 := bstep q2 j3
    clear c2 f2 z2 q2 j3
    obtain ⟨c3, f3⟩ := bcell q3
    have z3 : w.heap.size + 2 < w3.heap.size := by have := q3.size; simp at this; omega
    go_wp2_with fail
    exact bodyPost_ret (v := tval 0 false) zR58tvalc3 rfl ⟨rfl, set6 (bstep (below3 _ _ _ _) q3) (by omega) _ _ _ _ _ _⟩
   ·skip
    cases y2
    ·skip
     show Calls _ _ _ _ fun e w' => e = .returned (tval 0 false) ∧ _
     go_enter Tryz.func58, Tryz.ntmps58
     go_wp2_with fail
     refine (runtruth_any _ _ _ _ _ _ _ _ _).mono ?_
     rintro e w1 ⟨rfl, j1⟩
     rw [unhide U1]
     have q1 := j1
     obtain ⟨c1, f1⟩ := bcell q1
     have z1 : w.heap.size + 2 < w1.heap.size := by have := q1.size; simp at this; omega
     go_wp2_with fail
     refine (runtruth_any _ _ _ _ _ _ _ _ _).mono ?_
     rintro e w2 ⟨rfl, j2⟩
     rw [unhide U2]
     have q2 := bstep q1 j2
     clear c1 f1 z1 q1 j2
     obtain ⟨c2, f2⟩ := bcell q2
     have z2 : w.heap.size + 2 < w2.heap.size := by have := q2.size; simp at this; omega
     go_wp2_with fail
     refine (rtruth_any _ _ _ _ _ _ _ _ _).mono ?_
     rintro e w3 ⟨rfl, j3⟩
     rw [unhide Y1]
     have q3 := bstep q2 j3
     clear c2 f2 z2 q2 j3
     obtain ⟨c3, f3⟩ := bcell q3
     have z3 : w.heap.size + 2 < w3.heap.size := by have := q3.size; simp at this; omega
     go_wp2_with fail
     refine (rtruth_any _ _ _ _ _ _ _ _ _).mono ?_
     rintro e w4 ⟨rfl, j4⟩
     rw [unhide Y2]
     have q4 := bstep q3 j4
     clear c3 f3 z3 q3 j4
     obtain ⟨c4, f4⟩ := bcell q4
     have z4 : w.heap.size + 2 < w4.heap.size := by have := q4.size; simp at this; omega
     go_wp2_with fail
     exact bodyPost_ret (v := tval 0 false) (by simp [results, Tryz.results58, go_sem, tval, c4]) rfl ⟨rfl, set6 (bstep (below3 _ _ _ _) q4) (by omega) _ _ _ _ _ _⟩
    ·skip
     show Calls _ _ _ _ fun e w' => e = .returned (tval 1 true) ∧ _
     go_enter Tryz.func58, Tryz.ntmps58
     go_wp2_with fail
     refine (runtruth_any _ _ _ _ _ _ _ _ _).mono ?_
     rintro e w1 ⟨rfl, j1⟩
     rw [unhide U1]
     have q1 := j1
     obtain ⟨c1, f1⟩ := bcell q1
     have z1 : w.heap.size + 2 < w1.heap.size := by have := q1.size; simp at this; omega
     go_wp2_with fail
     refine (runtruth_any _ _ _ _ _ _ _ _ _).mono ?_
     rintro e w2 ⟨rfl, j2⟩
     rw [unhide U2]
     have q2 := bstep q1 j2
     clear c1 f1 z1 q1 j2
     obtain ⟨c2, f2⟩ := bcell q2
     have z2 : w.heap.size + 2 < w2.heap.size := by have := q2.size; simp at this; omega
     go_wp2_with fail
     refine (rtruth_any _ _ _ _ _ _ _ _ _).mono ?_
     rintro e w3 ⟨rfl, j3⟩
     rw [unhide Y1]
     have q3 := bstep q2 j3
     clear c2 f2 z2 q2 j3
     obtain ⟨c3, f3⟩ := bcell q3
     have z3 : w.heap.size + 2 < w3.heap.size := by have := q3.size; simp at this; omega
     go_wp2_with fail
     refine (rtruth_any _ _ _ _ _ _ _ _ _).mono ?_
     rintro e w4 ⟨rfl, j4⟩
     rw [unhide Y2]
     have q4 := bstep q3 j4
     clear c3 f3 z3 q3 j4
     obtain ⟨c4, f4⟩ := bcell q4
     have z4 : w.heap.size + 2 < w4.heap.size := by have := q4.size; simp at this; omega
     go_wp2_with fail
     refine (rof_any _ _).mono ?_
     rintro e w5 ⟨rfl, j5⟩
     unfold tval
     have q5 := bstep q4 j5
     clear c4 f4 z4 q4 j5
     obtain ⟨c5, f5⟩ := bcell q5
     have z5 : w.heap.size + 2 < w5.heap.size := by have := q5.size; simp at this; omega
     go_wp2_with fail
     exact bodyPost_ret (v := tval 1 true) (by simp [results, Tryz.results58, go_sem, tval, c5]) rfl ⟨rfl, set6 (bstep (below3 _ _ _ _) q5) (by omega) _ _ _ _ _ _⟩
  ·skip
   show Calls _ _ _ _ fun e w' => e = .returned (tval 1 false) ∧ _
   go_enter Tryz.func58, Tryz.ntmps58
   go_wp2_with fail
   refine (runtruth_any _ _ _ _ _ _ _ _ _).mono ?_
   rintro e w1 ⟨rfl, j1⟩
   rw [unhide U1]
   have q1 := j1
   obtain ⟨c1, f1⟩ := bcell q1
   have z1 : w.heap.size + 2 < w1.heap.size := by have := q1.size; simp at this; omega
   go_wp2_with fail
   refine (runtruth_any _ _ _ _ _ _ _ _ _).mono ?_
   rintro e w2 ⟨rfl, j2⟩
   rw [unhide U2]
   have q2 := bstep q1 j2
   clear c1 f1 z1 q1 j2
   obtain ⟨c2, f2⟩ := bcell q2
   have z2 : w.heap.size + 2 < w2.heap.size := by have := q2.size; simp at this; omega
   go_wp2_with fail
   refine (rof_any _ _).mono ?_
   rintro e w3 ⟨rfl, j3⟩
   unfold tval
   have q3 := bstep q2 j3
   clear c2 f2 z2 q2 j3
   obtain ⟨c3, f3⟩ := bcell q3
   have z3 : w.heap.size + 2 < w3.heap.size := by have := q3.size; simp at this; omega
   go_wp2_with fail
   exact bodyPost_ret (v := tval 1 false) zR58tvalc3 rfl ⟨rfl, set6 (bstep (below3 _ _ _ _) q3) (by omega) _ _ _ _ _ _⟩
 ·skip
  show Calls _ _ _ _ fun e w' => e = .returned (tval 1 false) ∧ _
  go_enter Tryz.func58, Tryz.ntmps58
  go_wp2_with fail
  refine (runtruth_any _ _ _ _ _ _ _ _ _).mono ?_
  rintro e w1 ⟨rfl, j1⟩
  rw [unhide U1]
  have q1 := j1
  obtain ⟨c1, f1⟩ := bcell q1
  have z1 : w.heap.size + 2 < w1.heap.size := by have := q1.size; simp at this; omega
  go_wp2_with fail
  refine (rof_any _ _).mono ?_
  rintro e w2 ⟨rfl, j2⟩
  unfold tval
  have q2 := bstep q1 j2
  clear c1 f1 z1 q1 j2
  obtain ⟨c2, f2⟩ := bcell q2
  have z2 : w.heap.size + 2 < w2.heap.size := by have := q2.size; simp at this; omega
  go_wp2_with fail
  exact bodyPost_ret (v := tval 1 false) (by simp [results, Tryz.results58, go_sem, tval, c2]) rfl ⟨rfl, set6 (bstep (below3 _ _ _ _) q2) (by omega) _ _ _ _ _ _⟩
theorem ror_any (k : Int) (b : Bool) (m s : Int) (t : ByteArray) (a : Option Addr) (len cap : Nat) (k' : Int) (b' : Bool) (m' s' : Int) (t' : ByteArray) (a' : Option Addr) (len' cap' : Nat) (w : World) :
  Calls Tryz.prog 59 #[.agg #[.int .i64 k, .bool b, .int .i64 m, .int .i64 s, .string t, .slice a len cap], .agg #[.int .i64 k', .bool b', .int .i64 m', .int .i64 s', .string t', .slice a' len' cap']] w fun e w' => e = .returned (tval (orK (trB k b) (trB k' b') (unB k b) (unB k' b')) (orB (trB k b) (trB k' b'))) ∧ Below w.heap.size w w' := by
 generalize hu1 : unB k b = u1
 generalize hu2 : unB k' b' = u2
 generalize hy1 : trB k b = y1
 generalize hy2 : trB k' b' = y2
 have U1 := hide hu1; have U2 := hide hu2; have Y1 := hide hy1; have Y2 := hide hy2
 clear hu1 hu2 hy1 hy2
 cases y1
 ·skip
  cases y2
  ·skip
   cases u1
   ·skip
    show Calls _ _ _ _ fun e w' => e = .returned (tval 0 false) ∧ _
    go_enter Tryz.func59, Tryz.ntmps59
    go_wp2_with fail
    refine (rtruth_any _ _ _ _ _ _ _ _ _).mono ?_
    rintro e w1 ⟨rfl, j1⟩
    rw [unhide Y1]
    have q1 := j1
    obtain ⟨c1, f1⟩ := bcell q1
    have z1 : w.heap.size + 2 < w1.heap.size := by have := q1.size; simp at this; omega
    go_wp2_with fail
    refine (rtruth_any _ _ _ _ _ _ _ _ _).mono ?_
    rintro e w2 ⟨rfl, j2⟩
    rw [unhide Y2]
    have q2 := bstep q1 j2
    clear c1 f1 z1 q1 j2
    obtain ⟨c2, f2⟩ := bcell q2
    have z2 : w.heap.size + 2 < w2.heap.size := by have := q2.size; simp at this; omega
    go_wp2_with fail
    refine (runtruth_any _ _ _ _ _ _ _ _ _).mono ?_
    rintro e w3 ⟨rfl, j3⟩
    rw [unhide U1]
    have q3 := bstep q2 j3
    clear c2 f2 z2 q2 j3
    obtain ⟨c3, f3⟩ := bcell q3
    have z3 : w.heap.size + 2 < w3.heap.size := by have := q3.size; simp at this; omega
    go_wp2_with fail
    exact bodyPost_ret (v := tval 0 false) zR59tvalc3 rfl ⟨rfl, set6 (bstep (below3 _ _ _ _) q3) (by omega) _ _ _ _ _ _⟩
   ·skip
    cases u2
    ·skip
     show Calls _ _ _ _ fun e w' => e = .returned (tval 0 false) ∧ _
     go_enter Tryz.func59, Tryz.ntmps59
     go_wp2_with fail
     refine (rtruth_any _ _ _ _ _ _ _ _ _).mono ?_
     rintro e w1 ⟨rfl, j1⟩
     rw [unhide Y1]
     have q1 := j1
     obtain ⟨c1, f1⟩ := bcell q1
     have z1 : w.heap.size + 2 < w1.heap.size := by have := q1.size; simp at this; omega
     go_wp2_with fail
     refine (rtruth_any _ _ _ _ _ _ _ _ _).mono ?_
     rintro e w2 ⟨rfl, j2⟩
     rw [unhide Y2]
     have q2 := bstep q1 j2
     clear c1 f1 z1 q1 j2
     obtain ⟨c2, f2⟩ := bcell q2
     have z2 : w.heap.size + 2 < w2.heap.size := by have := q2.size; simp at this; omega
     go_wp2_with fail
     refine (runtruth_any _ _ _ _ _ _ _ _ _).mono ?_
     rintro e w3 ⟨rfl, j3⟩
     rw [unhide U1]
     have q3 := bstep q2 j3
     clear c2 f2 z2 q2 j3
     obtain ⟨c3, f3⟩ := bcell q3
     have z3 : w.heap.size + 2 < w3.heap.size := by have := q3.size; simp at this; omega
     go_wp2_with fail
     refine (runtruth_any _ _ _ _ _ _ _ _ _).mono ?_
     rintro e w4 ⟨rfl, j4⟩
     rw [unhide U2]
     have q4 := bstep q3 j4
     clear c3 f3 z3 q3 j4
     obtain ⟨c4, f4⟩ := bcell q4
     have z4 : w.heap.size + 2 < w4.heap.size := by have := q4.size; simp at this; omega
     go_wp2_with fail
     exact bodyPost_ret (v := tval 0 false) (by simp [results, Tryz.results59, go_sem, tval, c4]) rfl ⟨rfl, set6 (bstep (below3 _ _ _ _) q4) (by omega) _ _ _ _ _ _⟩
    ·skip
     show Calls _ _ _ _ fun e w' => e = .returned (tval 1 false) ∧ _
     go_enter Tryz.func59, Tryz.ntmps59
     go_wp2_with fail
     refine (rtruth_any _ _ _ _ _ _ _ _ _).mono ?_
     rintro e w1 ⟨rfl, j1⟩
     rw [unhide Y1]
     have q1 := j1
     obtain ⟨c1, f1⟩ := bcell q1
     have z1 : w.heap.size + 2 < w1.heap.size := by have := q1.size; simp at this; omega
     go_wp2_with fail
     refine (rtruth_any _ _ _ _ _ _ _ _ _).mono ?_
     rintro e w2 ⟨rfl, j2⟩
     rw [unhide Y2]
     have q2 := bstep q1 j2
     clear c1 f1 z1 q1 j2
     obtain ⟨c2, f2⟩ := bcell q2
     have z2 : w.heap.size + 2 < w2.heap.size := by have := q2.size; simp at this; omega
     go_wp2_with fail
     refine (runtruth_any _ _ _ _ _ _ _ _ _).mono ?_
     rintro e w3 ⟨rfl, j3⟩
     rw [unhide U1]
     have q3 := bstep q2 j3
     clear c2 f2 z2 q2 j3
     obtain ⟨c3, f3⟩ := bcell q3
     have z3 : w.heap.size + 2 < w3.heap.size := by have := q3.size; simp at this; omega
     go_wp2_with fail
     refine (runtruth_any _ _ _ _ _ _ _ _ _).mono ?_
     rintro e w4 ⟨rfl, j4⟩
     rw [unhide U2]
     have q4 := bstep q3 j4
     clear c3 f3 z3 q3 j4
     obtain ⟨c4, f4⟩ := bcell q4
     have z4 : w.heap.size + 2 < w4.heap.size := by have := q4.size; simp at this; omega
     go_wp2_with fail
     refine (rof_any _ _).mono ?_
     rintro e w5 ⟨rfl, j5⟩
     unfold tval
     have q5 := bstep q4 j5
     clear c4 f4 z4 q4 j5
     obtain ⟨c5, f5⟩ := bcell q5
     have z5 : w.heap.size + 2 < w5.heap.size := by have := q5.size; simp at this; omega
     go_wp2_with fail
     exact bodyPost_ret (v := tval 1 false) (by simp [results, Tryz.results59, go_sem, tval, c5]) rfl ⟨rfl, set6 (bstep (below3 _ _ _ _) q5) (by omega) _ _ _ _ _ _⟩
  ·skip
   show Calls _ _ _ _ fun e w' => e = .returned (tval 1 true) ∧ _
   go_enter Tryz.func59, Tryz.ntmps59
   go_wp2_with fail
   refine (rtruth_any _ _ _ _ _ _ _ _ _).mono ?_
   rintro e w1 ⟨rfl, j1⟩
   rw [unhide Y1]
   have q1 := j1
   obtain ⟨c1, f1⟩ := bcell q1
   have z1 : w.heap.size + 2 < w1.heap.size := by have := q1.size; simp at this; omega
   go_wp2_with fail
   refine (rtruth_any _ _ _ _ _ _ _ _ _).mono ?_
   rintro e w2 ⟨rfl, j2⟩
   rw [unhide Y2]
   have q2 := bstep q1 j2
   clear c1 f1 z1 q1 j2
   obtain ⟨c2, f2⟩ := bcell q2
   have z2 : w.heap.size + 2 < w2.heap.size := by have := q2.size; simp at this; omega
   go_wp2_with fail
   refine (rof_any _ _).mono ?_
   rintro e w3 ⟨rfl, j3⟩
   unfold tval
   have q3 := bstep q2 j3
   clear c2 f2 z2 q2 j3
   obtain ⟨c3, f3⟩ := bcell q3
   have z3 : w.heap.size + 2 < w3.heap.size := by have := q3.size; simp at this; omega
   go_wp2_with fail
   exact bodyPost_ret (v := tval 1 true) zR59tvalc3 rfl ⟨rfl, set6 (bstep (below3 _ _ _ _) q3) (by omega) _ _ _ _ _ _⟩
 ·skip
  show Calls _ _ _ _ fun e w' => e = .returned (tval 1 true) ∧ _
  go_enter Tryz.func59, Tryz.ntmps59
  go_wp2_with fail
  refine (rtruth_any _ _ _ _ _ _ _ _ _).mono ?_
  rintro e w1 ⟨rfl, j1⟩
  rw [unhide Y1]
  have q1 := j1
  obtain ⟨c1, f1⟩ := bcell q1
  have z1 : w.heap.size + 2 < w1.heap.size := by have := q1.size; simp at this; omega
  go_wp2_with fail
  refine (rof_any _ _).mono ?_
  rintro e w2 ⟨rfl, j2⟩
  unfold tval
  have q2 := bstep q1 j2
  clear c1 f1 z1 q1 j2
  obtain ⟨c2, f2⟩ := bcell q2
  have z2 : w.heap.size + 2 < w2.heap.size := by have := q2.size; simp at this; omega
  go_wp2_with fail
  exact bodyPost_ret (v := tval 1 true) (by simp [results, Tryz.results59, go_sem, tval, c2]) rfl ⟨rfl, set6 (bstep (below3 _ _ _ _) q2) (by omega) _ _ _ _ _ _⟩
end Go.Proofs.YtfdimdjmnfdecaaGreat

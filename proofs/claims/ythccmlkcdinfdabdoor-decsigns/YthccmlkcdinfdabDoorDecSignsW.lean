/- The walk of DecSigns: signs go as they must. -/
import Derived.Test.YthccmlkcdinfdabDoorKnown
import Derived.Test.YthccmlkcdinfdabDoorMay
import Derived.Test.YthccmlkcdinfdabDoorMul
import Derived.Test.YthccmlkcdinfdabDoorDiv
import Derived.Test.YthccmlkcdinfdabDoorDText
import Derived.Test.YthccmlkcdinfdabDoorMath8
import Derived.Test.YthccmlkcdinfdabDoorKeep
namespace Go.Proofs.YthccmlkcdinfdabDoor
open Go.RowKit

theorem fitT_bds (m : Int) (s : Nat) : ∀ t, okM (fitTM m s t) = true := by
  intro t
  induction t with
  | zero => rfl
  | succ t ih =>
    unfold fitTM
    by_cases hok : okM (half m (p10 (s - t))) = true
    · rw [if_pos hok]; exact (trim_is t _ hok).1
    · rw [if_neg hok]; exact ih
theorem fit_bds (m s : Int) : -1000000000 ≤ fitM m s ∧ fitM m s ≤ 1000000000 := by
  rw [← okM_iff]
  unfold fitM
  by_cases ha : argB m s = true
  · rw [if_pos ha]; rfl
  · rw [if_neg ha]; exact fitT_bds _ _ _

theorem div_both (m s n t : Int) (ha : isB m s = true) (hb : isB n t = true) : ∃ R RS G : Int, -1000000000 ≤ R ∧ R ≤ 1000000000 ∧
    (∀ w, Calls Tryd.prog 6 #[.agg #[.int .i64 m, .int .i64 s], .agg #[.int .i64 n, .int .i64 t]] w fun e w' => e = .returned (.tuple #[.agg #[.int .i64 R, .int .i64 RS], .int .i64 G]) ∧ Below w.heap.size w w') ∧
    (∀ w, Calls Tryd.prog 6 #[.agg #[.int .i64 (-m), .int .i64 s], .agg #[.int .i64 n, .int .i64 t]] w fun e w' => e = .returned (.tuple #[.agg #[.int .i64 (-R), .int .i64 RS], .int .i64 G]) ∧ Below w.heap.size w w') := by
  have ha' : isB (-m) s = true := by rw [isB_neg]; exact ha
  by_cases hn : n = 0
  · subst hn
    exact ⟨0, 0, 1, by omega, by omega, fun w => div_zero m s t w ha hb, fun w => div_zero (-m) s t w ha' hb⟩
  · have h := fun w => div_any (-m) s n t w ha' hb hn
    rw [divQ_neg m s n t hn, (fit_neg _ _).1, (fit_neg _ _).2.1, (fit_neg _ _).2.2] at h
    exact ⟨_, _, _, (fit_bds _ _).1, (fit_bds _ _).2, fun w => div_any m s n t w ha hb hn, h⟩
theorem mul_both (m s n t : Int) (ha : isB m s = true) (hb : isB n t = true) : ∃ R RS G : Int, -1000000000 ≤ R ∧ R ≤ 1000000000 ∧
    (∀ w, Calls Tryd.prog 5 #[.agg #[.int .i64 m, .int .i64 s], .agg #[.int .i64 n, .int .i64 t]] w fun e w' => e = .returned (.tuple #[.agg #[.int .i64 R, .int .i64 RS], .int .i64 G]) ∧ Below w.heap.size w w') ∧
    (∀ w, Calls Tryd.prog 5 #[.agg #[.int .i64 (-m), .int .i64 s], .agg #[.int .i64 n, .int .i64 t]] w fun e w' => e = .returned (.tuple #[.agg #[.int .i64 (-R), .int .i64 RS], .int .i64 G]) ∧ Below w.heap.size w w') := by
  have ha' : isB (-m) s = true := by rw [isB_neg]; exact ha
  have h := fun w => mul_any (-m) s n t w ha' hb
  rw [Int.neg_mul, (fit_neg _ _).1, (fit_neg _ _).2.1, (fit_neg _ _).2.2] at h
  exact ⟨_, _, _, (fit_bds _ _).1, (fit_bds _ _).2, fun w => mul_any m s n t w ha hb, h⟩

theorem body_len (u s : Int) (h0 : 0 ≤ u) (h1 : u ≤ 1000000000) (s1 : 0 ≤ s) (s2 : s ≤ 4) : (bodyL u s).length ≤ 60 := by
  unfold bodyL
  have pb := p10_pos s.toNat
  by_cases hs : s = 0
  · rw [if_pos hs]; have := (dlen u (by omega)).2; omega
  · rw [if_neg hs]
    have q3 : u / p10 s.toNat ≤ 1000000000 := Int.le_trans (Int.ediv_le_self _ (by omega)) (by omega)
    have r3 : u % p10 s.toNat ≤ 1000000000 := by
      have := Int.emod_lt_of_pos u (b := p10 s.toNat) (by omega)
      have := p10_bd (n := s.toNat) (by omega)
      omega
    have a := (dlen (u / p10 s.toNat) (by omega)).2
    have b := (dlen (u % p10 s.toNat) (by omega)).2
    simp only [List.length_append, Lib.repeatL_length, List.length_cons, List.length_nil]
    omega
theorem sgn_pos (m : Int) (h : 0 < m) (s : Int) : sgnL (-m) ++ bodyL (absI (-m)) s = 45 :: bodyL m s ∧ sgnL m ++ bodyL (absI m) s = bodyL m s := by
  unfold sgnL absI
  rw [if_pos (by omega), if_pos (by omega), if_neg (by omega), if_neg (by omega), Int.neg_neg]
  exact ⟨rfl, rfl⟩

set_option maxHeartbeats 1600000 in
theorem decSigns_walk (m s n t : Int) (_ : (Lit.int .i64 m).wf = true) (_ : (Lit.int .i64 s).wf = true) (_ : (Lit.int .i64 n).wf = true) (_ : (Lit.int .i64 t).wf = true) (w : World) (ht : Tab w) :
    Calls Tryd.prog 3 #[.agg #[.int .i64 m, .int .i64 s], .agg #[.int .i64 n, .int .i64 t]] w fun e w' => e = .returned (.bool true) ∧ Below w.heap.size w w' := by
  have HT := hide ht
  clear ht
  cases hab : (isB m s && isB n t)
  · have H := hide hab
    clear hab
    go_enter Tryd.func3, Tryd.ntmps3
    go_wp2_with fail
    refine (may2_any m s n t _ _ (by simp) (by go_simp) (by go_simp) (by go_simp) (by go_simp)).mono ?_
    rintro e V ⟨rfl, k1⟩
    rw [unhide H]
    go_wp2_with fail
    go_ret
    exact ⟨rfl, bstep (below3 _ _ _ _) k1⟩
  · have H := hide hab
    have ha : isB m s = true := by cases h : isB m s <;> simp [h] at hab ⊢
    have hb : isB n t = true := by cases h : isB n t <;> simp [h] at hab ⊢
    have ⟨m1, m2, s1, s2⟩ := isB_bd ha
    obtain ⟨P, PS, E, p1, p2, M1, M2⟩ := mul_both m s n t ha hb
    obtain ⟨R, RS, G, r1, r2, D1, D2⟩ := div_both m s n t ha hb
    have T1 := hide (fun w h => text_any (-m) s w (by rw [isB_neg]; exact ha) h)
    have T2 := hide (fun w h => text_any m s w ha h)
    have HM1 := hide M1; have HM2 := hide M2; have HD1 := hide D1; have HD2 := hide D2
    clear hab ha hb M1 M2 D1 D2
    go_enter Tryd.func3, Tryd.ntmps3
    go_wp2_with fail
    refine (may2_any m s n t _ _ (by simp) (by go_simp) (by go_simp) (by go_simp) (by go_simp)).mono ?_
    rintro e V ⟨rfl, k1⟩
    rw [unhide H]
    have a1 : Has V w.heap.size m s := ⟨by have := k1.size; simp at this; omega, kcell k1 (by first | (simp; done) | (simp; omega)) (by go_simp), kcell k1 (by first | (simp; done) | (simp; omega)) (by go_simp)⟩
    have a2 : Has V (w.heap.size + 1) n t := ⟨by have := k1.size; simp at this; omega, kcell k1 (by first | (simp; done) | (simp; omega)) (by go_simp), kcell k1 (by first | (simp; done) | (simp; omega)) (by go_simp)⟩
    have y0 : Below w.heap.size w V := bstep (below3 w _ _ _) k1
    clear k1
    obtain ⟨g1, g2, g3⟩ := id a1
    obtain ⟨h1, h2, h3⟩ := id a2
    go_wp2_with fail
    have nn := Has.new V (-m) s 23
    have a1' := a1.put (Obj.cells #[.int .i64 (-m), .int .i64 s] 23)
    have a2' := a2.put (Obj.cells #[.int .i64 (-m), .int .i64 s] 23)
    have y1 := bstep y0 (below1 V (Obj.cells #[.int .i64 (-m), .int .i64 s] 23))
    generalize V.alloc (Obj.cells #[.int .i64 (-m), .int .i64 s] 23) = V1 at *
    generalize V.heap.size = bn at *
    clear a1 a2 y0 g1 g2 g3 h1 h2 h3
    refine (unhide HM1 _).mono ?_
    rintro e w1 ⟨rfl, k1⟩
    have c1_0 := a1'.call k1
    have c1_1 := a2'.call k1
    have c1_2 := nn.call k1
    have z1 := bstep y1 k1
    clear a1' a2' nn y1 k1
    obtain ⟨p1_0, q1_0, r1_0⟩ := id c1_0
    obtain ⟨p1_1, q1_1, r1_1⟩ := id c1_1
    obtain ⟨p1_2, q1_2, r1_2⟩ := id c1_2
    go_wp2_with fail
    have nb1 := Has.new w1 P PS 23
    have d1_0 := c1_0.put (Obj.cells #[.int .i64 P, .int .i64 PS] 23)
    have d1_1 := c1_1.put (Obj.cells #[.int .i64 P, .int .i64 PS] 23)
    have d1_2 := c1_2.put (Obj.cells #[.int .i64 P, .int .i64 PS] 23)
    have y2 := bstep z1 (below1 w1 (Obj.cells #[.int .i64 P, .int .i64 PS] 23))
    generalize w1.alloc (Obj.cells #[.int .i64 P, .int .i64 PS] 23) = V2 at *
    generalize w1.heap.size = bb1 at *
    clear z1 c1_0 c1_1 c1_2 p1_0 q1_0 r1_0 p1_1 q1_1 r1_1 p1_2 q1_2 r1_2
    refine (unhide HM2 _).mono ?_
    rintro e w2 ⟨rfl, k2⟩
    have c2_0 := d1_0.call k2
    have c2_1 := d1_1.call k2
    have c2_2 := d1_2.call k2
    have c2_3 := nb1.call k2
    have z2 := bstep y2 k2
    clear d1_0 d1_1 d1_2 nb1 y2 k2
    obtain ⟨p2_0, q2_0, r2_0⟩ := id c2_0
    obtain ⟨p2_1, q2_1, r2_1⟩ := id c2_1
    obtain ⟨p2_2, q2_2, r2_2⟩ := id c2_2
    obtain ⟨p2_3, q2_3, r2_3⟩ := id c2_3
    go_wp2_with fail
    have nb2 := Has.new w2 (-P) PS 23
    have d2_0 := c2_0.put (Obj.cells #[.int .i64 (-P), .int .i64 PS] 23)
    have d2_1 := c2_1.put (Obj.cells #[.int .i64 (-P), .int .i64 PS] 23)
    have d2_2 := c2_2.put (Obj.cells #[.int .i64 (-P), .int .i64 PS] 23)
    have d2_3 := c2_3.put (Obj.cells #[.int .i64 (-P), .int .i64 PS] 23)
    have y3 := bstep z2 (below1 w2 (Obj.cells #[.int .i64 (-P), .int .i64 PS] 23))
    generalize w2.alloc (Obj.cells #[.int .i64 (-P), .int .i64 PS] 23) = V3 at *
    generalize w2.heap.size = bb2 at *
    clear z2 c2_0 c2_1 c2_2 c2_3 p2_0 q2_0 r2_0 p2_1 q2_1 r2_1 p2_2 q2_2 r2_2 p2_3 q2_3 r2_3
    refine (unhide HD1 _).mono ?_
    rintro e w3 ⟨rfl, k3⟩
    have c3_0 := d2_0.call k3
    have c3_1 := d2_1.call k3
    have c3_2 := d2_2.call k3
    have c3_3 := d2_3.call k3
    have c3_4 := nb2.call k3
    have z3 := bstep y3 k3
    clear d2_0 d2_1 d2_2 d2_3 nb2 y3 k3
    obtain ⟨p3_0, q3_0, r3_0⟩ := id c3_0
    obtain ⟨p3_1, q3_1, r3_1⟩ := id c3_1
    obtain ⟨p3_2, q3_2, r3_2⟩ := id c3_2
    obtain ⟨p3_3, q3_3, r3_3⟩ := id c3_3
    obtain ⟨p3_4, q3_4, r3_4⟩ := id c3_4
    go_wp2_with fail
    have nb3 := Has.new w3 R RS 23
    have d3_0 := c3_0.put (Obj.cells #[.int .i64 R, .int .i64 RS] 23)
    have d3_1 := c3_1.put (Obj.cells #[.int .i64 R, .int .i64 RS] 23)
    have d3_2 := c3_2.put (Obj.cells #[.int .i64 R, .int .i64 RS] 23)
    have d3_3 := c3_3.put (Obj.cells #[.int .i64 R, .int .i64 RS] 23)
    have d3_4 := c3_4.put (Obj.cells #[.int .i64 R, .int .i64 RS] 23)
    have y4 := bstep z3 (below1 w3 (Obj.cells #[.int .i64 R, .int .i64 RS] 23))
    generalize w3.alloc (Obj.cells #[.int .i64 R, .int .i64 RS] 23) = V4 at *
    generalize w3.heap.size = bb3 at *
    clear z3 c3_0 c3_1 c3_2 c3_3 c3_4 p3_0 q3_0 r3_0 p3_1 q3_1 r3_1 p3_2 q3_2 r3_2 p3_3 q3_3 r3_3 p3_4 q3_4 r3_4
    refine (unhide HD2 _).mono ?_
    rintro e w4 ⟨rfl, k4⟩
    have c4_0 := d3_0.call k4
    have c4_1 := d3_1.call k4
    have c4_2 := d3_2.call k4
    have c4_3 := d3_3.call k4
    have c4_4 := d3_4.call k4
    have c4_5 := nb3.call k4
    have z4 := bstep y4 k4
    clear d3_0 d3_1 d3_2 d3_3 d3_4 nb3 y4 k4
    obtain ⟨p4_0, q4_0, r4_0⟩ := id c4_0
    obtain ⟨p4_1, q4_1, r4_1⟩ := id c4_1
    obtain ⟨p4_2, q4_2, r4_2⟩ := id c4_2
    obtain ⟨p4_3, q4_3, r4_3⟩ := id c4_3
    obtain ⟨p4_4, q4_4, r4_4⟩ := id c4_4
    obtain ⟨p4_5, q4_5, r4_5⟩ := id c4_5
    go_wp2_with fail
    have nb4 := Has.new w4 (-R) RS 23
    have d4_0 := c4_0.put (Obj.cells #[.int .i64 (-R), .int .i64 RS] 23)
    have d4_1 := c4_1.put (Obj.cells #[.int .i64 (-R), .int .i64 RS] 23)
    have d4_2 := c4_2.put (Obj.cells #[.int .i64 (-R), .int .i64 RS] 23)
    have d4_3 := c4_3.put (Obj.cells #[.int .i64 (-R), .int .i64 RS] 23)
    have d4_4 := c4_4.put (Obj.cells #[.int .i64 (-R), .int .i64 RS] 23)
    have d4_5 := c4_5.put (Obj.cells #[.int .i64 (-R), .int .i64 RS] 23)
    have y5 := bstep z4 (below1 w4 (Obj.cells #[.int .i64 (-R), .int .i64 RS] 23))
    generalize w4.alloc (Obj.cells #[.int .i64 (-R), .int .i64 RS] 23) = V5 at *
    generalize w4.heap.size = bb4 at *
    clear z4 c4_0 c4_1 c4_2 c4_3 c4_4 c4_5 p4_0 q4_0 r4_0 p4_1 q4_1 r4_1 p4_2 q4_2 r4_2 p4_3 q4_3 r4_3 p4_4 q4_4 r4_4 p4_5 q4_5 r4_5
    refine (unhide T1 _ (tab_below (unhide HT) y5)).mono ?_
    rintro e w5 ⟨rfl, k5⟩
    have a5 := d4_0.call k5
    have z5 := bstep y5 k5
    obtain ⟨g1, g2, g3⟩ := id a5
    clear d4_0 d4_1 d4_2 d4_3 d4_4 d4_5 nb4
    by_cases hm : m ≤ 0
    · go_wp2_with fail
      refine (known_any _).mono ?_
      rintro e w6 ⟨rfl, k6⟩
      go_wp2_with fail
      go_ret
      exact ⟨rfl, bstep z5 k6⟩
    have hp : 0 < m := by omega
    have bl := body_len m s (by omega) m2 s1 s2
    rw [(sgn_pos m hp s).1]
    rw [(sgn_pos m hp s).2] at T2
    have BA := ba_app [45] (bodyL m s)
    generalize bodyL m s = l at *
    go_wp2_with fail
    refine (unhide T2 _ (tab_below (unhide HT) z5)).mono ?_
    rintro e w6 ⟨rfl, k6⟩
    go_wp2_with fail
    refine (known_any _).mono ?_
    rintro e w7 ⟨rfl, k7⟩
    go_wp2_with fail
    go_ret
    exact ⟨rfl, bstep z5 (bstep k6 k7)⟩
end Go.Proofs.YthccmlkcdinfdabDoor

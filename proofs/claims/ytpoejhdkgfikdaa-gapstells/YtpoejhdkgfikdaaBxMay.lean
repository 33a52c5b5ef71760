/- May boxes be asked: the law's guard. Printed by mkbxmay.py. -/
import Derived.Test.YtpoejhdkgfikdaaBxFell
import Derived.Test.YtpoejhdkgfikdaaRegA
namespace Go.Proofs.Ytpoejhdkgfikdaa
open Go.RowKit
set_option linter.unusedVariables false
set_option linter.unusedSimpArgs false

def mayB (l : List Bx) (W : Bx) : Prop := okB W ∧ fel l W.1.length
set_option maxHeartbeats 4000000 in
theorem may_any (Q : Nat → Prop) (a : Option Addr) (cap : Nat) (l : List Bx) (W : Bx) (v1 v2 : Value) (w : World) (h : BxsI Q w a l) (hW : BoxI Q w v1 v2 W) (hl : l.length ≤ maxLen) :
    Calls Try.prog 7 #[.slice a l.length cap, .agg #[v1, v2]] w fun e w' => Ans (mayB l W) e ∧ Below w.heap.size w w' := by
  have IS := hide (fun w' (k : Below w.heap.size w w') => ris_any Q W v1 v2 w' (hW.below k))
  have N1 : Hid (8 < l.length → ¬ mayB l W) := hide (fun h8 hm => by have := hm.2.1; omega)
  have N2 : Hid (10 < W.1.length → ¬ mayB l W) := hide (fun h10 hm => by have := hm.1.2.1; omega)
  have N3 : Hid (¬ okB W → ¬ mayB l W) := hide (fun h hm => h hm.1)
  have N4 : Hid (∀ j, j < l.length → 10 < (bx l j).1.length → ¬ mayB l W) := hide (fun j hj h10 hm => by have := (hm.2.2 j hj).1.2.1; omega)
  have N5 : Hid (∀ j, j < l.length → ¬ okB (bx l j) → ¬ mayB l W) := hide (fun j hj h hm => h (hm.2.2 j hj).1)
  have N6 : Hid (∀ j, j < l.length → (bx l j).1.length ≠ W.1.length → ¬ mayB l W) := hide (fun j hj h hm => h (hm.2.2 j hj).2)
  have YES : Hid (¬ 8 < l.length → okB W → (∀ i, i < l.length → okB (bx l i) ∧ (bx l i).1.length = W.1.length) → mayB l W) := hide (fun h8 ho hf => ⟨ho, by omega, hf⟩)
  have RI := hide (fun j v3 v4 w' (hb : BoxI Q w' v3 v4 (bx l j)) => ris_any Q (bx l j) v3 v4 w' hb)
  have HB := hide h
  unfold maxLen at hl
  obtain ⟨a1, c1, rfl⟩ := hW.1.form
  obtain ⟨a2, c2, rfl⟩ := hW.2.form
  have m1 := hW.1.at.2.1
  unfold maxLen at m1
  generalize mayB l W = M at *
  generalize hO : okB W = O at *
  clear hO h hW
  generalize W.1.length = n1 at *
  generalize W.2.length = n2 at *
  have b0 := below1 w (Obj.cells #[.slice a1 n1 c1, .slice a2 n2 c2] 25)
  have x0 : (w.alloc (Obj.cells #[.slice a1 n1 c1, .slice a2 n2 c2] 25)).cell? ⟨w.heap.size, 0, none⟩ = some (.slice a1 n1 c1) := by go_simp
  have x1 : (w.alloc (Obj.cells #[.slice a1 n1 c1, .slice a2 n2 c2] 25)).cell? ⟨w.heap.size, 1, none⟩ = some (.slice a2 n2 c2) := by go_simp
  have hz : w.heap.size < (w.alloc (Obj.cells #[.slice a1 n1 c1, .slice a2 n2 c2] 25)).heap.size := by simp
  by_cases h8 : 8 < l.length
  · have F := hide (unhide N1 h8)
    clear N1 N2 N3 N4 N5 N6 YES
    go_enter Try.func7, Try.ntmps7
    go_wp2_with fail
    go_ret
    exact ⟨ans_no (unhide F), b0⟩
  by_cases h10 : 10 < n1
  · have F := hide (unhide N2 h10)
    clear N1 N2 N3 N4 N5 N6 YES
    go_enter Try.func7, Try.ntmps7
    go_wp2_with fail
    go_ret
    exact ⟨ans_no (unhide F), b0⟩
  go_enter Try.func7, Try.ntmps7
  go_wp2_with fail
  generalize w.alloc (Obj.cells #[.slice a1 n1 c1, .slice a2 n2 c2] 25) = W0 at *
  refine (unhide IS _ b0).mono ?_
  rintro e W1 ⟨⟨r, rfl, hr⟩, b1⟩
  have x0 := ((bcell b1).1 _ _ hz).trans x0
  have x1 := ((bcell b1).1 _ _ hz).trans x1
  have b2 := bstep b0 b1
  have hz := Nat.lt_of_lt_of_le hz b1.size
  clear b0 b1 IS N1 N2
  cases r
  · have F := hide (unhide N3 (fun h => by have h2 := hr.2 h; cases h2))
    clear N3 N4 N5 N6 YES hr
    go_wp2_with fail
    go_ret
    exact ⟨ans_no (unhide F), b2⟩
  have YES := hide (unhide YES h8 (hr.1 rfl))
  clear hr N3
  go_wp2_with fail
  go_loopw [5] (fun i wr => ∃ j : Nat, j ≤ l.length ∧ i = .int .i64 j ∧ Below W1.heap.size W1 wr ∧ Hid (∀ i, i < j → okB (bx l i) ∧ (bx l i).1.length = n1)) (fun i _ => l.length - (intOf i).toNat)
  case atStart => exact ⟨0, Nat.zero_le _, rfl, Below.refl _ _, hide (fun i hi => absurd hi (Nat.not_lt_zero _))⟩
  case round =>
    obtain ⟨j, hj, rfl, bel, H⟩ := hrel
    have belw := bstep b2 bel
    by_cases hlt : j < l.length
    · obtain ⟨blA, oA, r1, r2, rfl, hqA, hbA, kA, kB, kC⟩ := (unhide HB).below belw j hlt
      obtain ⟨a3, c3, rfl⟩ := kC.1.form
      obtain ⟨a4, c4, rfl⟩ := kC.2.form
      have k0 : wr.cell? ⟨w.heap.size, 0, none⟩ = some (.slice a1 n1 c1) := ((bcell bel).1 _ _ hz).trans x0
      have N4 := hide (unhide N4 j hlt)
      have N5 := hide (unhide N5 j hlt)
      have N6 := hide (unhide N6 j hlt)
      have GO : Hid (okB (bx l j) → (bx l j).1.length = n1 → ∀ i, i < j + 1 → okB (bx l i) ∧ (bx l i).1.length = n1) := hide (fun ho he i hi => if e : i = j then e ▸ ⟨ho, he⟩ else unhide H i (by omega))
      have RIJ := hide (fun w' (k : Below wr.heap.size wr w') => unhide RI j _ _ w' (kC.below k))
      clear H RI HB YES x0 x1 kC
      generalize okB (bx l j) = OJ at *
      generalize (bx l j).1.length = n3 at *
      generalize (bx l j).2.length = n4 at *
      go_wp2_with fail
      obtain ⟨S, HS⟩ : ∃ S : World → Prop, S = fun w' => Below wr.heap.size wr w' ∧ w'.cell? ⟨blA, oA + j * 2, none⟩ = some (.slice a3 n3 c3) ∧ w'.cell? ⟨blA, oA + j * 2 + 1, none⟩ = some (.slice a4 n4 c4) ∧ w'.cell? ⟨w.heap.size, 0, none⟩ = some (.slice a1 n1 c1) := ⟨_, rfl⟩
      have HSS := hide HS
      have S0V : Hid (S wr) := hide (by rw [HS]; exact ⟨Below.refl _ _, kA, kB, k0⟩)
      have SB : Hid (∀ x, S x → Below wr.heap.size wr x) := hide (by rw [HS]; exact fun x h => h.1)
      have SKC : Hid (∀ x w' : World, S x → Below x.heap.size x w' → S w') := hide (by
        rw [HS]; rintro x w' ⟨h0, h1, h2, h3⟩ kk
        exact ⟨bstep h0 kk, kcx kk h1, kcx kk h2, kcx kk h3⟩)
      clear HS kA kB k0
      by_cases g10 : 10 < n3
      · have F := hide (unhide N4 g10)
        have d10 : decide ((10 : Int) < (n3 : Int)) = true := by simp; omega
        clear N4 N5 N6 GO
        refine wp_region_noPanic ?_
        refine wp_region_held_drew (S := S) (by kernel_rfl) (unhide SKC _ _ (unhide S0V) (Below.refl _ _).drew) (fun hHeld => ?_)
        generalize wr.drew = u0 at *
        refine takeC 0 (some 26) ?_
        refine takeC 1 (some 27) ?_
        refine takeC 2 (some 28) ?_
        refine takeC 3 (some 29) ?_
        refine takeC 4 (some 30) ?_
        refine takeC 5 (some 31) ?_
        refine takeC 6 (some 32) ?_
        refine takeC 7 (some 33) ?_
        refine skipAt 8 (some 34) ⟨_, rfl, rfl, rfl⟩ (by kernel_rfl) (by kernel_rfl) (by kernel_rfl) (fun _ _ _ h => h) (by assumption) ?_
        simp only [Act.put, List.setIfInBounds_toArray, List.set_cons_zero, List.set_cons_succ]
        refine skipAt 9 (some 35) ⟨_, rfl, rfl, rfl⟩ (by kernel_rfl) (by kernel_rfl) (by kernel_rfl) (fun _ _ _ h => h) (by assumption) ?_
        simp only [Act.put, List.setIfInBounds_toArray, List.set_cons_zero, List.set_cons_succ]
        refine skipAt 10 (some 36) ⟨_, rfl, rfl, rfl⟩ (by kernel_rfl) (by kernel_rfl) (by kernel_rfl) (fun _ _ _ h => h) (by assumption) ?_
        simp only [Act.put, List.setIfInBounds_toArray, List.set_cons_zero, List.set_cons_succ]
        refine skipAt 11 (some 37) ⟨_, rfl, rfl, rfl⟩ (by kernel_rfl) (by kernel_rfl) (by kernel_rfl) (fun _ _ _ h => h) (by assumption) ?_
        simp only [Act.put, List.setIfInBounds_toArray, List.set_cons_zero, List.set_cons_succ]
        refine skipAt 12 (some 38) ⟨_, rfl, rfl, rfl⟩ (by kernel_rfl) (by kernel_rfl) (by kernel_rfl) (fun _ _ _ h => h) (by assumption) ?_
        simp only [Act.put, List.setIfInBounds_toArray, List.set_cons_zero, List.set_cons_succ]
        refine skipAt 13 (some 39) ⟨_, rfl, rfl, rfl⟩ (by kernel_rfl) (by kernel_rfl) (by kernel_rfl) (fun _ _ _ h => h) (by assumption) ?_
        simp only [Act.put, List.setIfInBounds_toArray, List.set_cons_zero, List.set_cons_succ]
        refine takeC 14 (some 40) ?_
        refine takeC 15 (some 41) ?_
        refine skipAt 16 (some 42) ⟨_, rfl, rfl, rfl⟩ (by kernel_rfl) (by kernel_rfl) (by kernel_rfl) (fun _ _ _ h => h) (by assumption) ?_
        simp only [Act.put, List.setIfInBounds_toArray, List.set_cons_zero, List.set_cons_succ]
        refine skipAt 17 (some 43) ⟨_, rfl, rfl, rfl⟩ (by kernel_rfl) (by kernel_rfl) (by kernel_rfl) (fun _ _ _ h => h) (by assumption) ?_
        simp only [Act.put, List.setIfInBounds_toArray, List.set_cons_zero, List.set_cons_succ]
        refine skipAt 18 (some 44) ⟨_, rfl, rfl, rfl⟩ (by kernel_rfl) (by kernel_rfl) (by kernel_rfl) (fun _ _ _ h => h) (by assumption) ?_
        simp only [Act.put, List.setIfInBounds_toArray, List.set_cons_zero, List.set_cons_succ]
        refine skipAt 19 (some 45) ⟨_, rfl, rfl, rfl⟩ (by kernel_rfl) (by kernel_rfl) (by kernel_rfl) (fun _ _ _ h => h) (by assumption) ?_
        simp only [Act.put, List.setIfInBounds_toArray, List.set_cons_zero, List.set_cons_succ]
        refine skipAt 20 (some 46) ⟨_, rfl, rfl, rfl⟩ (by kernel_rfl) (by kernel_rfl) (by kernel_rfl) (fun _ _ _ h => h) (by assumption) ?_
        simp only [Act.put, List.setIfInBounds_toArray, List.set_cons_zero, List.set_cons_succ]
        refine skipAt 21 (some 47) ⟨_, rfl, rfl, rfl⟩ (by kernel_rfl) (by kernel_rfl) (by kernel_rfl) (fun _ _ _ h => h) (by assumption) ?_
        simp only [Act.put, List.setIfInBounds_toArray, List.set_cons_zero, List.set_cons_succ]
        refine skipAt 22 (some 48) ⟨_, rfl, rfl, rfl⟩ (by kernel_rfl) (by kernel_rfl) (by kernel_rfl) (fun _ _ _ h => h) (by assumption) ?_
        simp only [Act.put, List.setIfInBounds_toArray, List.set_cons_zero, List.set_cons_succ]
        refine skipAt 23 (some 49) ⟨_, rfl, rfl, rfl⟩ (by kernel_rfl) (by kernel_rfl) (by kernel_rfl) (fun _ _ _ h => h) (by assumption) ?_
        simp only [Act.put, List.setIfInBounds_toArray, List.set_cons_zero, List.set_cons_succ]
        refine skipAt 24 (some 50) ⟨_, rfl, rfl, rfl⟩ (by kernel_rfl) (by kernel_rfl) (by kernel_rfl) (fun _ _ _ h => h) (by assumption) ?_
        simp only [Act.put, List.setIfInBounds_toArray, List.set_cons_zero, List.set_cons_succ]
        refine skipAt 25 (some 51) ⟨_, rfl, rfl, rfl⟩ (by kernel_rfl) (by kernel_rfl) (by kernel_rfl) (fun _ _ _ h => h) (by assumption) ?_
        simp only [Act.put, List.setIfInBounds_toArray, List.set_cons_zero, List.set_cons_succ]
        refine takeC 26 (some 52) ?_
        refine wpAnyH_done (by kernel_rfl) ?_ _
        refine NoPanic.normal ?_
        have BQ := unhide SB _ hHeld
        clear hHeld
        go_wp2_with fail
        go_ret
        exact ⟨ans_no (unhide F), bstep belw BQ⟩
      have d10 : decide ((10 : Int) < (n3 : Int)) = false := by simp; omega
      by_cases goj : OJ
      · by_cases gne : n3 = n1
        · have F := hide (unhide GO goj gne)
          clear N4 N5 N6 GO
          subst gne
          have z : ((n3 : Int) != n3) = false := by simp
          refine wp_region_noPanic ?_
          refine wp_region_held_drew (S := S) (by kernel_rfl) (unhide SKC _ _ (unhide S0V) (Below.refl _ _).drew) (fun hHeld => ?_)
          generalize wr.drew = u0 at *
          refine takeC 0 (some 26) ?_
          refine takeC 1 (some 27) ?_
          refine takeC 2 (some 28) ?_
          refine takeC 3 (some 29) ?_
          refine takeC 4 (some 30) ?_
          refine takeC 5 (some 31) ?_
          refine takeC 6 (some 32) ?_
          refine takeC 7 (some 33) ?_
          clear d10
          refine takeC 8 (some 34) ?_
          refine takeC 9 (some 35) ?_
          refine takeC 10 (some 36) ?_
          refine takeC 11 (some 37) ?_
          refine wpAnyH_ready (rs := [12]) (by kernel_rfl) (by simp) ?_
          refine AllReadyH.cons rfl (fun K0 hK0 => ?_) AllReadyH.nil
          have BB := unhide SB _ hHeld
          go_simp
          refine (unhide RIJ _ BB).mono ?_
          rintro e u1 ⟨⟨r, rfl, hr⟩, j1⟩
          obtain rfl : r = true := hr.2 goj
          clear hr RIJ
          go_wp2_with fail
          refine hK0.out _ _ (unhide SKC _ _ hHeld j1) (fun hHeld1 => ?_)
          clear hK0 K0 hHeld BB j1
          have hHeld := hHeld1
          clear hHeld1
          try simp only [Act.put, List.setIfInBounds_toArray, List.set_cons_zero, List.set_cons_succ]
          refine takeC 13 (some 39) ?_
          refine takeC 14 (some 40) ?_
          refine takeC 15 (some 41) ?_
          refine takeC 16 (some 42) ?_
          refine takeC 17 (some 43) ?_
          refine takeC 18 (some 44) ?_
          refine takeC 19 (some 45) ?_
          refine takeC 20 (some 46) ?_
          refine takeC 21 (some 47) ?_
          refine takeC 22 (some 48) ?_
          refine takeC 23 (some 49) ?_
          refine takeC 24 (some 50) ?_
          refine takeC 25 (some 51) ?_
          refine takeC 26 (some 52) ?_
          refine wpAnyH_done (by kernel_rfl) ?_ _
          refine NoPanic.normal ?_
          have BQ := unhide SB _ hHeld
          clear hHeld
          go_wp2_with fail
          go_roundw
          case rel => exact ⟨j + 1, by omega, by go_num, bstep bel BQ, F⟩
          case measure => simp [intOf]; omega
        · have F := hide (unhide N6 gne)
          clear N4 N5 N6 GO
          have z : ((n3 : Int) != n1) = true := by simp; omega
          refine wp_region_noPanic ?_
          refine wp_region_held_drew (S := S) (by kernel_rfl) (unhide SKC _ _ (unhide S0V) (Below.refl _ _).drew) (fun hHeld => ?_)
          generalize wr.drew = u0 at *
          refine takeC 0 (some 26) ?_
          refine takeC 1 (some 27) ?_
          refine takeC 2 (some 28) ?_
          refine takeC 3 (some 29) ?_
          refine takeC 4 (some 30) ?_
          refine takeC 5 (some 31) ?_
          refine takeC 6 (some 32) ?_
          refine takeC 7 (some 33) ?_
          clear d10
          refine takeC 8 (some 34) ?_
          refine takeC 9 (some 35) ?_
          refine takeC 10 (some 36) ?_
          refine takeC 11 (some 37) ?_
          refine wpAnyH_ready (rs := [12]) (by kernel_rfl) (by simp) ?_
          refine AllReadyH.cons rfl (fun K0 hK0 => ?_) AllReadyH.nil
          have BB := unhide SB _ hHeld
          go_simp
          refine (unhide RIJ _ BB).mono ?_
          rintro e u1 ⟨⟨r, rfl, hr⟩, j1⟩
          obtain rfl : r = true := hr.2 goj
          clear hr RIJ
          go_wp2_with fail
          refine hK0.out _ _ (unhide SKC _ _ hHeld j1) (fun hHeld1 => ?_)
          clear hK0 K0 hHeld BB j1
          have hHeld := hHeld1
          clear hHeld1
          try simp only [Act.put, List.setIfInBounds_toArray, List.set_cons_zero, List.set_cons_succ]
          refine takeC 13 (some 39) ?_
          refine takeC 14 (some 40) ?_
          refine takeC 15 (some 41) ?_
          refine takeC 16 (some 42) ?_
          refine takeC 17 (some 43) ?_
          refine takeC 18 (some 44) ?_
          refine takeC 19 (some 45) ?_
          refine takeC 20 (some 46) ?_
          refine takeC 21 (some 47) ?_
          refine takeC 22 (some 48) ?_
          refine takeC 23 (some 49) ?_
          refine takeC 24 (some 50) ?_
          refine takeC 25 (some 51) ?_
          refine takeC 26 (some 52) ?_
          refine wpAnyH_done (by kernel_rfl) ?_ _
          refine NoPanic.normal ?_
          have BQ := unhide SB _ hHeld
          clear hHeld
          go_wp2_with fail
          go_ret
          exact ⟨ans_no (unhide F), bstep belw BQ⟩
      · have F := hide (unhide N5 goj)
        clear N4 N5 N6 GO
        refine wp_region_noPanic ?_
        refine wp_region_held_drew (S := S) (by kernel_rfl) (unhide SKC _ _ (unhide S0V) (Below.refl _ _).drew) (fun hHeld => ?_)
        generalize wr.drew = u0 at *
        refine takeC 0 (some 26) ?_
        refine takeC 1 (some 27) ?_
        refine takeC 2 (some 28) ?_
        refine takeC 3 (some 29) ?_
        refine takeC 4 (some 30) ?_
        refine takeC 5 (some 31) ?_
        refine takeC 6 (some 32) ?_
        refine takeC 7 (some 33) ?_
        clear d10
        refine takeC 8 (some 34) ?_
        refine takeC 9 (some 35) ?_
        refine takeC 10 (some 36) ?_
        refine takeC 11 (some 37) ?_
        refine wpAnyH_ready (rs := [12]) (by kernel_rfl) (by simp) ?_
        refine AllReadyH.cons rfl (fun K0 hK0 => ?_) AllReadyH.nil
        have BB := unhide SB _ hHeld
        go_simp
        refine (unhide RIJ _ BB).mono ?_
        rintro e u1 ⟨⟨r, rfl, hr⟩, j1⟩
        obtain rfl : r = false := by cases r; rfl; exact absurd (hr.1 rfl) goj
        clear hr RIJ
        go_wp2_with fail
        refine hK0.out _ _ (unhide SKC _ _ hHeld j1) (fun hHeld1 => ?_)
        clear hK0 K0 hHeld BB j1
        have hHeld := hHeld1
        clear hHeld1
        try simp only [Act.put, List.setIfInBounds_toArray, List.set_cons_zero, List.set_cons_succ]
        refine takeC 13 (some 39) ?_
        refine takeC 14 (some 40) ?_
        refine takeC 15 (some 41) ?_
        refine skipAt 16 (some 42) ⟨_, rfl, rfl, rfl⟩ (by kernel_rfl) (by kernel_rfl) (by kernel_rfl) (fun _ _ _ h => h) (by assumption) ?_
        simp only [Act.put, List.setIfInBounds_toArray, List.set_cons_zero, List.set_cons_succ]
        refine skipAt 17 (some 43) ⟨_, rfl, rfl, rfl⟩ (by kernel_rfl) (by kernel_rfl) (by kernel_rfl) (fun _ _ _ h => h) (by assumption) ?_
        simp only [Act.put, List.setIfInBounds_toArray, List.set_cons_zero, List.set_cons_succ]
        refine skipAt 18 (some 44) ⟨_, rfl, rfl, rfl⟩ (by kernel_rfl) (by kernel_rfl) (by kernel_rfl) (fun _ _ _ h => h) (by assumption) ?_
        simp only [Act.put, List.setIfInBounds_toArray, List.set_cons_zero, List.set_cons_succ]
        refine skipAt 19 (some 45) ⟨_, rfl, rfl, rfl⟩ (by kernel_rfl) (by kernel_rfl) (by kernel_rfl) (fun _ _ _ h => h) (by assumption) ?_
        simp only [Act.put, List.setIfInBounds_toArray, List.set_cons_zero, List.set_cons_succ]
        refine skipAt 20 (some 46) ⟨_, rfl, rfl, rfl⟩ (by kernel_rfl) (by kernel_rfl) (by kernel_rfl) (fun _ _ _ h => h) (by assumption) ?_
        simp only [Act.put, List.setIfInBounds_toArray, List.set_cons_zero, List.set_cons_succ]
        refine skipAt 21 (some 47) ⟨_, rfl, rfl, rfl⟩ (by kernel_rfl) (by kernel_rfl) (by kernel_rfl) (fun _ _ _ h => h) (by assumption) ?_
        simp only [Act.put, List.setIfInBounds_toArray, List.set_cons_zero, List.set_cons_succ]
        refine skipAt 22 (some 48) ⟨_, rfl, rfl, rfl⟩ (by kernel_rfl) (by kernel_rfl) (by kernel_rfl) (fun _ _ _ h => h) (by assumption) ?_
        simp only [Act.put, List.setIfInBounds_toArray, List.set_cons_zero, List.set_cons_succ]
        refine skipAt 23 (some 49) ⟨_, rfl, rfl, rfl⟩ (by kernel_rfl) (by kernel_rfl) (by kernel_rfl) (fun _ _ _ h => h) (by assumption) ?_
        simp only [Act.put, List.setIfInBounds_toArray, List.set_cons_zero, List.set_cons_succ]
        refine skipAt 24 (some 50) ⟨_, rfl, rfl, rfl⟩ (by kernel_rfl) (by kernel_rfl) (by kernel_rfl) (fun _ _ _ h => h) (by assumption) ?_
        simp only [Act.put, List.setIfInBounds_toArray, List.set_cons_zero, List.set_cons_succ]
        refine skipAt 25 (some 51) ⟨_, rfl, rfl, rfl⟩ (by kernel_rfl) (by kernel_rfl) (by kernel_rfl) (fun _ _ _ h => h) (by assumption) ?_
        simp only [Act.put, List.setIfInBounds_toArray, List.set_cons_zero, List.set_cons_succ]
        refine takeC 26 (some 52) ?_
        refine wpAnyH_done (by kernel_rfl) ?_ _
        refine NoPanic.normal ?_
        have BQ := unhide SB _ hHeld
        clear hHeld
        go_wp2_with fail
        go_ret
        exact ⟨ans_no (unhide F), bstep belw BQ⟩
    · go_wp2_with fail
      go_ret
      exact ⟨ans_yes (unhide YES (fun i hi => unhide H i (by omega))), belw⟩
end Go.Proofs.Ytpoejhdkgfikdaa


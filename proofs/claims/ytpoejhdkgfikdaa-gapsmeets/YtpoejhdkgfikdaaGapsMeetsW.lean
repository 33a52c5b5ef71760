/- The walk of GapsMeets: two that are told to meet share a point; of those ahead none do. -/
import Derived.Test.YtpoejhdkgfikdaaBxOver
import Derived.Test.YtpoejhdkgfikdaaBxMay
import Derived.Test.YtpoejhdkgfikdaaBxKnown
namespace Go.Proofs.Ytpoejhdkgfikdaa
open Go.RowKit
set_option linter.unusedVariables false
set_option linter.unusedSimpArgs false

theorem bel_nz {w x y : World} (h : Below w.heap.size w x) (k : Below x.heap.size x y) : Below w.heap.size w y := bstep h k

set_option maxHeartbeats 8000000 in
set_option maxRecDepth 10000 in
theorem gapsMeets_walk (a0 : Option Addr) (cap0 : Nat) (l : List Bx) (W : Bx) (v1 v2 : Value) (w : World) (h : BxsI (fun _ => True) w a0 l) (hl : l.length ≤ maxLen) (hW : BoxI (fun _ => True) w v1 v2 W) :
    Calls Try.prog 5 #[.slice a0 l.length cap0, .agg #[v1, v2]] w fun e w' => e = .returned (.bool true) ∧ Below w.heap.size w w' := by
  have MA := hide (fun w' (k : Below w.heap.size w w') => may_any _ a0 cap0 l W v1 v2 w' (h.below k) (hW.below k) hl)
  have OVR := hide (fun w' (k : Below w.heap.size w w') (hf : fel l W.1.length) => gover_any _ a0 cap0 W.1.length l w' (h.below k) hf)
  have HB := hide h
  have KN := hide (fun w' => known_any w')
  unfold maxLen at hl
  obtain ⟨a1, c1, rfl⟩ := hW.1.form
  obtain ⟨a2, c2, rfl⟩ := hW.2.form
  clear h hW
  have SPL : Hid (mayB l W → okB W ∧ fel l W.1.length) := hide id
  generalize mayB l W = M at *
  generalize W.1.length = n1 at *
  generalize W.2.length = n2 at *
  have b0 := below1 w (Obj.cells #[.slice a1 n1 c1, .slice a2 n2 c2] 25)
  go_enter Try.func5, Try.ntmps5
  go_wp2_with fail
  generalize w.alloc (Obj.cells #[.slice a1 n1 c1, .slice a2 n2 c2] 25) = W0 at *
  refine (unhide MA _ b0).mono ?_
  rintro e W1 ⟨⟨r, rfl, hr⟩, b1⟩
  have b2 := bstep b0 b1
  clear b0 b1 MA
  cases r
  · clear hr SPL OVR HB KN
    go_wp2_with fail
    go_ret
    exact ⟨rfl, b2⟩
  have HF := hide (unhide SPL (hr.1 rfl)).2
  clear hr SPL
  go_wp2_with fail
  refine (unhide OVR _ b2 (unhide HF)).mono ?_
  rintro e W2 ⟨⟨i, k, o, rfl, hov⟩, b3⟩
  have OV0 := hide hov
  have b4 := bstep b2 b3
  clear hov b2 b3 OVR
  go_wp2_with fail
  go_loopw [8] (fun x wr => ∃ a : Nat, a ≤ l.length ∧ x = .int .i64 a ∧ Below W2.heap.size W2 wr ∧ Hid (∀ c d : Nat, c < d → d < l.length → c < a → ¬ meets (bx l c) (bx l d))) (fun x _ => l.length - (intOf x).toNat)
  case atStart => exact ⟨0, Nat.zero_le _, rfl, Below.refl _ _, hide (fun c d _ _ hc => absurd hc (Nat.not_lt_zero _))⟩
  case round =>
    obtain ⟨a, ha, rfl, bel, H⟩ := hrel
    obtain ⟨wo, hwo⟩ : ∃ wo, wo = wr := ⟨_, rfl⟩
    subst hwo
    by_cases hlt : a < l.length
    · go_wp2_with fail
      go_loopw [9] (fun x wr => ∃ b : Nat, a < b ∧ b ≤ l.length ∧ x = .int .i64 b ∧ Below wo.heap.size wo wr ∧ Hid (∀ d : Nat, a < d → d < b → ¬ meets (bx l a) (bx l d))) (fun x _ => l.length - (intOf x).toNat)
      case atStart => exact ⟨a + 1, by omega, by omega, by go_num, Below.refl _ _, hide (fun d h1 h2 => by omega)⟩
      case round =>
        obtain ⟨b, hab, hb, rfl, bev, G⟩ := hrel
        have belw := bstep (bstep b4 bel) bev
        obtain ⟨wp, hwp⟩ : ∃ wp, wp = wr := ⟨_, rfl⟩
        subst hwp
        by_cases hbt : b < l.length
        · have OA := (unhide HF).2 a hlt
          have OB := (unhide HF).2 b hbt
          have oa := OA.1
          have ob := OB.1
          have la := OA.2
          have lb := OB.2
          have oa2 := oa.2.2.1
          have ob2 := ob.2.2.1
          have ra := oa.2.2.2
          have rb := ob.2.2.2
          have n3 := oa.2.1
          rw [oa2.symm.trans (oa2.trans la)] at oa2
          have MEE : Hid ((∀ i, i < n1 → (ix (bx l a).1 i ≤ ix (bx l b).2 i ∧ ix (bx l b).1 i ≤ ix (bx l a).2 i)) ↔ meets (bx l a) (bx l b)) := hide (by unfold meets; rw [la])
          have RA : Hid (∀ i, i < n1 → ix (bx l a).1 i ≤ ix (bx l a).2 i ∧ ix (bx l b).1 i ≤ ix (bx l b).2 i) := hide (fun i hi => ⟨(ra i (by omega)).2.1, (rb i (by omega)).2.1⟩)
          have LA : Hid ((bx l a).1.length = n1 ∧ (bx l a).2.length = n1 ∧ (bx l b).1.length = n1 ∧ (bx l b).2.length = n1) := hide ⟨la, oa2, lb, ob2.trans lb⟩
          rw [la] at n3
          clear OA OB oa ob la lb oa2 ob2 ra rb
          go_wp2_with fail
          go_loopw [10, 11] (fun m x wr => ∃ (d : Nat) (mb : Bool), d ≤ n1 ∧ x = .int .i64 d ∧ m = .bool mb ∧ Below wp.heap.size wp wr ∧ Hid (mb = true ↔ ∀ i, i < d → (ix (bx l a).1 i ≤ ix (bx l b).2 i ∧ ix (bx l b).1 i ≤ ix (bx l a).2 i))) (fun _ x _ => n1 - (intOf x).toNat)
          case atStart => exact ⟨0, true, Nat.zero_le _, rfl, rfl, Below.refl _ _, hide (by simp)⟩
          case round =>
            obtain ⟨d, mb, hd, rfl, rfl, bed, E⟩ := hrel
            have beld := bstep belw bed
            obtain ⟨blA, oA, p1, p2, eA, hqA, hbA, kA, kB, kC⟩ := (unhide HB).below beld a hlt
            obtain ⟨blB, oB, p3, p4, eB, hqB, hbB, kD, kE, kF⟩ := (unhide HB).below beld b hbt
            subst eA
            cases eB
            obtain ⟨l1, l2, l3, l4⟩ := unhide LA
            obtain ⟨a3, c3, rfl⟩ := kC.1.form
            obtain ⟨a4, c4, rfl⟩ := kC.2.form
            obtain ⟨a5, c5, rfl⟩ := kF.1.form
            obtain ⟨a6, c6, rfl⟩ := kF.2.form
            have q1 := kC.1.at.2.2
            have q2 := kC.2.at.2.2
            have q3 := kF.1.at.2.2
            have q4 := kF.2.at.2.2
            rw [l1] at q1 kA
            rw [l2] at q2 kB
            rw [l3] at q3 kD
            rw [l4] at q4 kE
            clear l1 l2 l3 l4 kC kF
            by_cases hdt : d < n1
            · obtain ⟨g1, f1, rfl, t1, y1⟩ := q1 d hdt
              obtain ⟨g2, f2, rfl, t2, y2⟩ := q2 d hdt
              obtain ⟨g3, f3, rfl, t3, y3⟩ := q3 d hdt
              obtain ⟨g4, f4, rfl, t4, y4⟩ := q4 d hdt
              have RAd := unhide RA d hdt
              have E1 : Hid (∀ mb' : Bool, (mb' = true ↔ mb = true ∧ (ix (bx l a).1 d ≤ ix (bx l b).2 d ∧ ix (bx l b).1 d ≤ ix (bx l a).2 d)) → (mb' = true ↔ ∀ i, i < d + 1 → (ix (bx l a).1 i ≤ ix (bx l b).2 i ∧ ix (bx l b).1 i ≤ ix (bx l a).2 i))) := hide (fun mb' h' => by
                rw [h', unhide E]
                constructor
                · rintro ⟨h1, h2⟩ i hi
                  by_cases e : i = d
                  · subst e; exact h2
                  · exact h1 i (by omega)
                · exact fun h1 => ⟨fun i hi => h1 i (by omega), h1 d (by omega)⟩)
              clear E RA MEE q1 q2 q3 q4 HB H G KN OV0 HF LA
              generalize ix (bx l a).1 d = p1 at *
              generalize ix (bx l a).2 d = p2 at *
              generalize ix (bx l b).1 d = p3 at *
              generalize ix (bx l b).2 d = p4 at *
              cases mb
              · go_wp2_with fail
                go_quiet (fail)
                go_wp2_with fail
                go_roundw
                case rel => exact ⟨d + 1, false, by omega, by go_num, rfl, below_drewN bed _, hide (unhide E1 false (by simp))⟩
                case measure => simp [intOf]; omega
              · go_wp2_with fail
                go_quiet (fail)
                go_wp2_with fail
                go_roundw
                case rel => exact ⟨d + 1, decide (max p1 p3 ≤ min p2 p4), by omega, by go_num, rfl, below_drewN bed _, hide (unhide E1 _ (by simp only [decide_eq_true_eq, true_and]; omega))⟩
                case measure => simp [intOf]; omega
            · obtain rfl : d = n1 := by omega
              have E2 := (unhide E).trans (unhide MEE)
              cases mb
              · have F : Hid (∀ d : Nat, a < d → d < b + 1 → ¬ meets (bx l a) (bx l d)) := hide (fun d h1 h2 => if e : d = b then e ▸ (fun hm => by have h3 := E2.2 hm; cases h3) else unhide G d h1 (by omega))
                clear E2 E MEE RA q1 q2 q3 q4 HB H G KN OV0 HF LA
                go_wp2_with fail
                go_roundw
                case rel => exact ⟨b + 1, by omega, by omega, by go_num, bstep bev bed, F⟩
                case measure => simp [intOf]; omega
              · obtain ⟨rfl, rfl, rfl⟩ := OV_one (unhide OV0) (i' := a) (k' := b) (o' := true) (.inl ⟨rfl, a, b, rfl, rfl, hab, hbt, E2.1 rfl, fun c d hcd hd' hor => by
                  rcases hor with hc | ⟨rfl, hd2⟩
                  · exact unhide H c d hcd hd' hc
                  · exact unhide G d hcd hd2⟩)
                clear E2 E MEE RA q1 q2 q3 q4 HB H G OV0 HF LA
                go_wp2_with fail
                refine (unhide KN _).mono ?_
                rintro e W9 ⟨rfl, b9⟩
                go_wp2_with fail
                go_ret
                exact ⟨rfl, bstep beld b9⟩
        · have F : Hid (∀ c d : Nat, c < d → d < l.length → c < a + 1 → ¬ meets (bx l c) (bx l d)) := hide (fun c d h1 h2 h3 => if e : c = a then e ▸ unhide G d (by omega) (by omega) else unhide H c d h1 h2 (by omega))
          clear HB KN OV0 HF H G
          go_wp2_with fail
          go_roundw
          case rel => exact ⟨a + 1, by omega, by go_num, bstep bel bev, F⟩
          case measure => simp [intOf]; omega
    · obtain ⟨rfl, rfl, rfl⟩ := OV_one (unhide OV0) (i' := 0) (k' := 0) (o' := false) (.inr ⟨rfl, rfl, rfl, fun c d h1 h2 => unhide H c d h1 h2 (by omega)⟩)
      clear HB OV0 HF H
      go_wp2_with fail
      refine (unhide KN _).mono ?_
      rintro e W9 ⟨rfl, b9⟩
      go_wp2_with fail
      go_ret
      exact ⟨rfl, bstep (bstep b4 bel) b9⟩
end Go.Proofs.Ytpoejhdkgfikdaa

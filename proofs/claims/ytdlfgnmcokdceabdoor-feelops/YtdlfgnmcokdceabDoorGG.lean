/- FAtom: laid together. -/
import Derived.Test.YtdlfgnmcokdceabDoorGF
/- The contracts of the reader's atom and unary. -/
namespace Go.Proofs.YtdlfgnmcokdceabDoor
open Go.RowKit
set_option linter.unusedVariables false
set_option linter.unusedSimpArgs false
variable {b : Nat} {a : Option Addr} {cap : Nat} {ts : List Tk}

/- the atom's way: what stands there. -/
theorem atom_num {e1 : Nat → RX} {k : Nat} (h : k < ts.length) (h2 : (tokAt ts k).1 = 2) : atomP ts e1 k = numP (tokAt ts k).2.1 k := by
  rw [tokAt_in h] at *
  unfold atomP
  rw [List.getElem?_eq_getElem h]
  dsimp only
  rw [if_pos h2]
theorem tok_lt {k : Nat} (h : (tokAt ts k).1 ≠ 0) : k < ts.length := by
  apply Classical.byContradiction
  intro hk
  rw [tokAt_end (by omega)] at h
  exact h rfl
theorem atom_text {e1 : Nat → RX} {k : Nat} (h : k < ts.length) (h2 : (tokAt ts k).1 = 3) : atomP ts e1 k = .ok (textX (tokAt ts k).2.1) (k + 1) := by
  rw [tokAt_in h] at *
  unfold atomP
  rw [List.getElem?_eq_getElem h]
  dsimp only
  rw [if_neg (by omega), if_pos h2]
theorem atom_name {e1 : Nat → RX} {k : Nat} (h : k < ts.length) (h2 : (tokAt ts k).1 = 1) (hw : wordB (tokAt ts k).2.1 = false) : atomP ts e1 k = namedP ts e1 (tokAt ts k).2.1 (k + 1) := by
  rw [tokAt_in h] at *
  unfold atomP
  rw [List.getElem?_eq_getElem h]
  dsimp only
  rw [if_neg (by omega), if_neg (by omega), if_pos ⟨h2, hw⟩]
theorem sign_end {e1 : Nat → RX} {k : Nat} (h : ts.length ≤ k) : signP ts e1 k = .er 2 k := by
  have e : ∀ m, mkB ts k m = false := by
    intro m
    cases hm : mkB ts k m with
    | false => rfl
    | true => have := mkB_lt hm; omega
  unfold signP constP
  simp [e]
theorem atom_sign {e1 : Nat → RX} {k : Nat} (h2 : (tokAt ts k).1 ≠ 2) (h3 : (tokAt ts k).1 ≠ 3) (h1 : (tokAt ts k).1 = 1 → wordB (tokAt ts k).2.1 = true) : atomP ts e1 k = signP ts e1 k := by
  by_cases h : k < ts.length
  · rw [tokAt_in h] at *
    unfold atomP
    rw [List.getElem?_eq_getElem h]
    dsimp only
    rw [if_neg h2, if_neg h3, if_neg (fun x => by have := h1 x.1; rw [x.2] at this; cases this)]
  · rw [sign_end (by omega)]
    unfold atomP
    rw [List.getElem?_eq_none (by omega)]

set_option maxHeartbeats 4000000 in
set_option maxRecDepth 10000 in
theorem atom_any (d : Nat) (e1 : Nat → RX) (hp : PartOf b a cap ts 21 (d + 1) e1) (hts : GoodTs ts) (hd : d ≤ 100) : PartOf b a cap ts 61 d (atomP ts e1) := by
  intro w k R
  have R0 := R
  have hlt := R.lt
  have HP := hide hp
  have HT := hide hts
  have hn := hts.1
  have hg := good_at hts k
  clear R hp hts
  have z0 := hide (ZB.new w 28)
  have HH := hide (here_any (w.alloc (zO 28)) k (R0.alloc _) (unhide HT))
  have A2 := hide (fun h2 h => atom_num (ts := ts) (e1 := e1) (k := k) h2 h)
  have A3 := hide (fun h2 h => atom_text (ts := ts) (e1 := e1) (k := k) h2 h)
  have A1 := hide (fun h2 h hw => atom_name (ts := ts) (e1 := e1) (k := k) h2 h hw)
  have A0 := hide (fun h2 h3 h1 => atom_sign (ts := ts) (e1 := e1) (k := k) h2 h3 h1)
  have HL := hide (fun h => tok_lt (ts := ts) (k := k) h)
  generalize tokAt ts k = t at *
  obtain ⟨tk, tt, tp⟩ := t
  obtain ⟨g1, g2, -⟩ := hg
  unfold tkV at HH
  dsimp only at HH A2 A3 A1 A0 HL g1 g2
  generalize hRES : atomP ts e1 k = RES at *
  by_cases h2 : tk = 2
  · subst h2
    have hk := unhide HL (by decide)
    have HR := hide (unhide A2 hk rfl)
    go_enter Tryd.func61, Tryd.ntmps61
    go_wp2_with fail
    refine (unhide HH).mono ?_
    rintro e w1 ⟨rfl, b1⟩
    have Z1 := hide (((unhide z0).below b1).alloc (.cells #[.int .i64 ((2 : Nat) : Int), .string ⟨tt.toArray⟩, .int .i64 (tp : Int)] 47))
    have M1 := (((Mv.refl b w).alloc _).below b1).alloc (.cells #[.int .i64 ((2 : Nat) : Int), .string ⟨tt.toArray⟩, .int .i64 (tp : Int)] 47)
    have R1 := ((R0.alloc _).below b1).alloc (.cells #[.int .i64 ((2 : Nat) : Int), .string ⟨tt.toArray⟩, .int .i64 (tp : Int)] 47)
    have z1 : w.heap.size + 1 ≤ w1.heap.size := by have := b1.size; simpa using this
    clear b1 A0 A1 A2 A3 HL HH z0
    go_wp2_with fail
    refine (fnumber_any tt _ k R1 hk g1 hn).mono ?_
    rw [← unhide HR]
    cases RES with
    | er c9 k9 =>
      rintro e w9 ⟨n9, hk9, R9, hc9, rfl⟩
      have Z9 := (unhide Z1).mv n9 (by omega)
      have M9 := M1.trans n9
      obtain ⟨y0, y1, y2, y3, y4, y5, y6, y7, y8, y9⟩ := Z9
      unfold zV
      go_wp2_with fail
      refine bodyPost_ret (v := .tuple #[.agg #[.int .i64 0, .bool false, .int .i64 0, .int .i64 0, .string ⟨#[]⟩, .bool false, .bool false, .slice none 0 0], .int .i64 c9]) (by simp [results, Tryd.results61, go_sem, y0, y1, y2, y3, y4, y5, y6, y7, y8]) rfl ?_
      exact ⟨by (repeat (first | with_reducible assumption | with_reducible exact Mv.refl _ _ | with_reducible refine Mv.alloc ?_ _ | (with_reducible refine Mv.own ?_ ?_ _; rotate_left; (focus (first | omega | (simp; done) | (simp; omega) | (dsimp only; omega)))) | with_reducible refine Mv.put ?_ _ _ | with_reducible refine Mv.drewN ?_ _ | with_reducible refine Mv.drew ?_)), by omega, by (repeat (first | with_reducible assumption | with_reducible refine Rd.alloc ?_ _ | (with_reducible refine Rd.own ?_ R0 ?_ _; rotate_left; (focus (first | omega | (simp; done) | (simp; omega) | (dsimp only; omega)))) | with_reducible refine Rd.drewN ?_ _ | with_reducible refine Rd.drew ?_)), hc9, rfl⟩
    | ok x9 k9 =>
      rintro e w9 ⟨n9, hk9, R9, T, rfl, hin, hbr⟩
      have Z9 := (unhide Z1).mv n9 (by omega)
      have M9 := M1.trans n9
      have HIN := hin.weak (Q' := Fr (w.heap.size + 1)) (fun g _ hg => by unfold Fr at hg ⊢; first | omega | (simp at hg; omega))
      obtain ⟨ek, eb, em, es, et, elo, ehi, ea, el, ec, ekid, rfl⟩ := hin.form
      clear hin
      obtain ⟨y0, y1, y2, y3, y4, y5, y6, y7, y8, y9⟩ := Z9
      dsimp only [XT.val]
      go_wp2_with fail
      refine bodyPost_ret (v := .tuple #[.agg #[.int .i64 ek, .bool eb, .int .i64 em, .int .i64 es, .string et, .bool elo, .bool ehi, .slice ea el ec], .int .i64 0]) (by simp [results, Tryd.results61, go_sem, y0, y1, y2, y3, y4, y5, y6, y7, y8]) rfl ?_
      exact post_ok (B := w.heap.size + 1) M9 R9 R0 (by omega) (Nat.le_refl _) (by omega) HIN hbr _ _ _ _ _ _ _ _
  · have e2 : ((tk : Int) == 2) = false := by simp; omega
    by_cases h3 : tk = 3
    · subst h3
      have hk := unhide HL (by decide)
      have HR := hide (unhide A3 hk rfl)
      go_enter Tryd.func61, Tryd.ntmps61
      go_wp2_with fail
      refine (unhide HH).mono ?_
      rintro e w1 ⟨rfl, b1⟩
      have Z1 := (unhide z0).below b1
      have M1 := ((Mv.refl b w).alloc _).below b1
      have R1 := (R0.alloc _).below b1
      have z1 : w.heap.size + 1 ≤ w1.heap.size := by have := b1.size; simpa using this
      clear b1 A0 A1 A2 A3 HL HH z0
      have R1' := hide R1
      obtain ⟨r1, r2, r3, r4, r5, -⟩ := R1
      obtain ⟨y0, y1, y2, y3, y4, y5, y6, y7, y8, y9⟩ := Z1
      go_wp2_with fail
      refine bodyPost_ret (v := .tuple #[.agg #[.int .i64 4, .bool false, .int .i64 0, .int .i64 0, .string ⟨tt.toArray⟩, .bool false, .bool false, .slice none 0 0], .int .i64 0]) (by simp [results, Tryd.results61, go_sem, y0, y1, y2, y3, y4, y5, y6, y7, y8]) rfl ?_
      rw [unhide HR]
      have hP := (unhide R1').put (k' := k + 1) (by omega)
      rw [show (((k + 1 : Nat)) : Int) = (k : Int) + 1 by omega] at hP
      exact ⟨by (repeat (first | with_reducible assumption | with_reducible exact Mv.refl _ _ | with_reducible refine Mv.alloc ?_ _ | (with_reducible refine Mv.own ?_ ?_ _; rotate_left; (focus (first | omega | (simp; done) | (simp; omega) | (dsimp only; omega)))) | with_reducible refine Mv.put ?_ _ _ | with_reducible refine Mv.drewN ?_ _ | with_reducible refine Mv.drew ?_)), by omega, by (repeat (first | with_reducible assumption | with_reducible refine Rd.alloc ?_ _ | (with_reducible refine Rd.own ?_ R0 ?_ _; rotate_left; (focus (first | omega | (simp; done) | (simp; omega) | (dsimp only; omega)))) | with_reducible refine Rd.drewN ?_ _ | with_reducible refine Rd.drew ?_)), _, rfl, in_leaf _ _ _ _ _ _ _, leaf_bare _ _ _ _ _ _ _⟩
    · have e3 : ((tk : Int) == 3) = false := by simp; omega
      have WD := hide (fun w => word_any tt w g1)
      by_cases h1 : tk = 1 ∧ wordB tt = false
      · obtain ⟨rfl, hw⟩ := h1
        have hk := unhide HL (by decide)
        have HR := hide (unhide A1 hk rfl hw)
        rw [hw] at WD
        go_enter Tryd.func61, Tryd.ntmps61
        go_wp2_with fail
        refine (unhide HH).mono ?_
        rintro e w1 ⟨rfl, b1⟩
        have Z1 := (unhide z0).below b1
        have M1 := ((Mv.refl b w).alloc _).below b1
        have R1 := (R0.alloc _).below b1
        have z1 : w.heap.size + 1 ≤ w1.heap.size := by have := b1.size; simpa using this
        clear b1 A0 A1 A2 A3 HL HH z0
        have R1' := hide R1
        have Z1' := hide Z1
        obtain ⟨r1, r2, r3, r4, r5, -⟩ := R1
        go_wp2_with fail
        refine (unhide WD _).mono ?_
        rintro e w2 ⟨rfl, rfl⟩
        go_wp2_with fail
        have hP := (unhide R1').put (k' := k + 1) (by omega)
        rw [show (((k + 1 : Nat)) : Int) = (k : Int) + 1 by omega] at hP
        have Z2 := hide (((unhide Z1').mv ((Mv.refl b w1).put 1 (.int .i64 ((k : Int) + 1))) (by omega)).alloc (.cells #[.int .i64 1, .string ⟨tt.toArray⟩, .int .i64 (tp : Int)] 47))
        have M2 := (M1.put 1 (.int .i64 ((k : Int) + 1))).alloc (.cells #[.int .i64 1, .string ⟨tt.toArray⟩, .int .i64 (tp : Int)] 47)
        refine (named_any (d + 1) e1 (unhide HP) (unhide HT) tt _ (k + 1) (hP.alloc _)).mono ?_
        rw [← unhide HR]
        clear HR r1 r2 r3 r4 r5
        cases RES with
        | er c9 k9 =>
          rintro e w9 ⟨n9, hk9, R9, hc9, rfl⟩
          have Z9 := (unhide Z2).mv n9 (by omega)
          have M9 := M2.trans n9
          obtain ⟨y0, y1, y2, y3, y4, y5, y6, y7, y8, y9⟩ := Z9
          unfold zV
          go_wp2_with fail
          refine bodyPost_ret (v := .tuple #[.agg #[.int .i64 0, .bool false, .int .i64 0, .int .i64 0, .string ⟨#[]⟩, .bool false, .bool false, .slice none 0 0], .int .i64 c9]) (by simp [results, Tryd.results61, go_sem, y0, y1, y2, y3, y4, y5, y6, y7, y8]) rfl ?_
          exact ⟨by (repeat (first | with_reducible assumption | with_reducible exact Mv.refl _ _ | with_reducible refine Mv.alloc ?_ _ | (with_reducible refine Mv.own ?_ ?_ _; rotate_left; (focus (first | omega | (simp; done) | (simp; omega) | (dsimp only; omega)))) | with_reducible refine Mv.put ?_ _ _ | with_reducible refine Mv.drewN ?_ _ | with_reducible refine Mv.drew ?_)), by omega, by (repeat (first | with_reducible assumption | with_reducible refine Rd.alloc ?_ _ | (with_reducible refine Rd.own ?_ R0 ?_ _; rotate_left; (focus (first | omega | (simp; done) | (simp; omega) | (dsimp only; omega)))) | with_reducible refine Rd.drewN ?_ _ | with_reducible refine Rd.drew ?_)), hc9, rfl⟩
        | ok x9 k9 =>
          rintro e w9 ⟨n9, hk9, R9, T, rfl, hin, hbr⟩
          have Z9 := (unhide Z2).mv n9 (by omega)
          have M9 := M2.trans n9
          have HIN := hin.weak (Q' := Fr (w.heap.size + 1)) (fun g _ hg => by unfold Fr at hg ⊢; first | omega | (simp at hg; omega) | (simp [World.setCell] at hg; omega))
          obtain ⟨ek, eb, em, es, et, elo, ehi, ea, el, ec, ekid, rfl⟩ := hin.form
          clear hin
          obtain ⟨y0, y1, y2, y3, y4, y5, y6, y7, y8, y9⟩ := Z9
          dsimp only [XT.val]
          go_wp2_with fail
          refine bodyPost_ret (v := .tuple #[.agg #[.int .i64 ek, .bool eb, .int .i64 em, .int .i64 es, .string et, .bool elo, .bool ehi, .slice ea el ec], .int .i64 0]) (by simp [results, Tryd.results61, go_sem, y0, y1, y2, y3, y4, y5, y6, y7, y8]) rfl ?_
          exact post_ok (B := w.heap.size + 1) M9 R9 R0 (by omega) (Nat.le_refl _) (by omega) HIN hbr _ _ _ _ _ _ _ _
      · have hw1 : tk = 1 → wordB tt = true := fun e => by cases hw : wordB tt with
          | true => rfl
          | false => exact absurd ⟨e, hw⟩ h1
        have HR := hide (unhide A0 h2 h3 hw1)
        have HR := hide ((unhide HR).trans (signP.eq_1 ts e1 k))
        by_cases hk1 : tk = 1
        · subst hk1
          rw [hw1 rfl] at WD
          clear hw1 h1
          go_enter Tryd.func61, Tryd.ntmps61
          go_wp2_with fail
          refine (unhide HH).mono ?_
          rintro e w1 ⟨rfl, b1⟩
          have Z1 := (unhide z0).below b1
          have M1 := ((Mv.refl b w).alloc _).below b1
          have R1 := (R0.alloc _).below b1
          have z1 : w.heap.size + 1 ≤ w1.heap.size := by have := b1.size; simpa using this
          clear b1 A0 A1 A2 A3 HL HH z0
          go_wp2_with fail
          refine (unhide WD _).mono ?_
          rintro e w2 ⟨rfl, rfl⟩
          go_wp2_with fail
          refine (pass_any _ k _ [[91]] _ ((R1.alloc _).alloc _) (unhide HT) (Marks.at (by simp) (by simp; omega) (by decide) (by decide))).mono ?_
          rw [fnd_one]
          cases hF : mkB ts k [91] with
          | true =>
            rw [if_pos rfl]
            rw [hF, if_pos rfl] at HR
            clear hF
            rintro e w2 ⟨n2, rfl, R2⟩
            have Z2 := hide (((Z1.alloc _).alloc _).mv n2 (by omega))
            have M2 := ((M1.alloc _).alloc _).trans n2
            have z2 : w1.heap.size + 2 ≤ w2.heap.size := by have := n2.size; simpa using this
            clear n2 Z1
            go_wp2_with fail
            refine (listed_any (d + 1) e1 (unhide HP) (unhide HT) _ (k + 1) R2).mono ?_
            rw [← unhide HR]
            clear HR
            cases RES with
            | er c9 k9 =>
              rintro e w9 ⟨n9, hk9, R9, hc9, rfl⟩
              have Z9 := (unhide Z2).mv n9 (by omega)
              have M9 := M2.trans n9
              obtain ⟨y0, y1, y2, y3, y4, y5, y6, y7, y8, y9⟩ := Z9
              unfold zV
              go_wp2_with fail
              refine bodyPost_ret (v := .tuple #[.agg #[.int .i64 0, .bool false, .int .i64 0, .int .i64 0, .string ⟨#[]⟩, .bool false, .bool false, .slice none 0 0], .int .i64 c9]) (by simp [results, Tryd.results61, go_sem, y0, y1, y2, y3, y4, y5, y6, y7, y8]) rfl ?_
              exact ⟨by (repeat (first | with_reducible assumption | with_reducible exact Mv.refl _ _ | with_reducible refine Mv.alloc ?_ _ | (with_reducible refine Mv.own ?_ ?_ _; rotate_left; (focus (first | omega | (simp; done) | (simp; omega) | (dsimp only; omega)))) | with_reducible refine Mv.put ?_ _ _ | with_reducible refine Mv.drewN ?_ _ | with_reducible refine Mv.drew ?_)), by omega, by (repeat (first | with_reducible assumption | with_reducible refine Rd.alloc ?_ _ | (with_reducible refine Rd.own ?_ R0 ?_ _; rotate_left; (focus (first | omega | (simp; done) | (simp; omega) | (dsimp only; omega)))) | with_reducible refine Rd.drewN ?_ _ | with_reducible refine Rd.drew ?_)), hc9, rfl⟩
            | ok x9 k9 =>
              rintro e w9 ⟨n9, hk9, R9, T, rfl, hin, hbr⟩
              have Z9 := (unhide Z2).mv n9 (by omega)
              have M9 := M2.trans n9
              have HIN := hin.weak (Q' := Fr (w.heap.size + 1)) (fun g _ hg => by unfold Fr at hg ⊢; first | omega | (simp at hg; omega) | (simp [World.setCell] at hg; omega))
              obtain ⟨ek, eb, em, es, et, elo, ehi, ea, el, ec, ekid, rfl⟩ := hin.form
              clear hin
              obtain ⟨y0, y1, y2, y3, y4, y5, y6, y7, y8, y9⟩ := Z9
              dsimp only [XT.val]
              go_wp2_with fail
              refine bodyPost_ret (v := .tuple #[.agg #[.int .i64 ek, .bool eb, .int .i64 em, .int .i64 es, .string et, .bool elo, .bool ehi, .slice ea el ec], .int .i64 0]) (by simp [results, Tryd.results61, go_sem, y0, y1, y2, y3, y4, y5, y6, y7, y8]) rfl ?_
              exact post_ok (B := w.heap.size + 1) M9 R9 R0 (by omega) (Nat.le_refl _) (by omega) HIN hbr _ _ _ _ _ _ _ _
          | false =>
            rw [if_neg (by decide)]
            rw [hF, if_neg (by decide)] at HR
            clear hF
            rintro e w2 ⟨n2, rfl, R2⟩
            have Z2 := hide (((Z1.alloc _).alloc _).mv n2 (by omega))
            have M2 := ((M1.alloc _).alloc _).trans n2
            have z2 : w1.heap.size + 2 ≤ w2.heap.size := by have := n2.size; simpa using this
            clear n2 Z1
            go_wp2_with fail
            refine (next_any _ k [40] R2 (unhide HT) (by decide)).mono ?_
            cases hF : mkB ts k [40] with
            | true =>
              have HF := hide hF
              rw [hF, if_pos rfl] at HR
              clear hF
              rintro e w3 ⟨rfl, b3⟩
              have Z3 := hide ((unhide Z2).below b3)
              have M3 := M2.below b3
              have R3 := R2.below b3
              have z3 := b3.size
              clear b3 Z2
              go_wp2_with fail
              refine (bracketed_any (d + 1) e1 (unhide HP) (unhide HT) _ k R3 (unhide HF)).mono ?_
              rw [← unhide HR]
              clear HR
              cases RES with
              | er c9 k9 =>
                rintro e w9 ⟨n9, hk9, R9, hc9, rfl⟩
                have Z9 := (unhide Z3).mv n9 (by omega)
                have M9 := M3.trans n9
                obtain ⟨y0, y1, y2, y3, y4, y5, y6, y7, y8, y9⟩ := Z9
                unfold zV
                go_wp2_with fail
                refine bodyPost_ret (v := .tuple #[.agg #[.int .i64 0, .bool false, .int .i64 0, .int .i64 0, .string ⟨#[]⟩, .bool false, .bool false, .slice none 0 0], .int .i64 c9]) (by simp [results, Tryd.results61, go_sem, y0, y1, y2, y3, y4, y5, y6, y7, y8]) rfl ?_
                exact ⟨by (repeat (first | with_reducible assumption | with_reducible exact Mv.refl _ _ | with_reducible refine Mv.alloc ?_ _ | (with_reducible refine Mv.own ?_ ?_ _; rotate_left; (focus (first | omega | (simp; done) | (simp; omega) | (dsimp only; omega)))) | with_reducible refine Mv.put ?_ _ _ | with_reducible refine Mv.drewN ?_ _ | with_reducible refine Mv.drew ?_)), by omega, by (repeat (first | with_reducible assumption | with_reducible refine Rd.alloc ?_ _ | (with_reducible refine Rd.own ?_ R0 ?_ _; rotate_left; (focus (first | omega | (simp; done) | (simp; omega) | (dsimp only; omega)))) | with_reducible refine Rd.drewN ?_ _ | with_reducible refine Rd.drew ?_)), hc9, rfl⟩
              | ok x9 k9 =>
                rintro e w9 ⟨n9, hk9, R9, T, rfl, hin, hbr⟩
                have Z9 := (unhide Z3).mv n9 (by omega)
                have M9 := M3.trans n9
                have HIN := hin.weak (Q' := Fr (w.heap.size + 1)) (fun g _ hg => by unfold Fr at hg ⊢; first | omega | (simp at hg; omega) | (simp [World.setCell] at hg; omega))
                obtain ⟨ek, eb, em, es, et, elo, ehi, ea, el, ec, ekid, rfl⟩ := hin.form
                clear hin
                obtain ⟨y0, y1, y2, y3, y4, y5, y6, y7, y8, y9⟩ := Z9
                dsimp only [XT.val]
                go_wp2_with fail
                refine bodyPost_ret (v := .tuple #[.agg #[.int .i64 ek, .bool eb, .int .i64 em, .int .i64 es, .string et, .bool elo, .bool ehi, .slice ea el ec], .int .i64 0]) (by simp [results, Tryd.results61, go_sem, y0, y1, y2, y3, y4, y5, y6, y7, y8]) rfl ?_
                exact post_ok (B := w.heap.size + 1) M9 R9 R0 (by omega) (Nat.le_refl _) (by omega) HIN hbr _ _ _ _ _ _ _ _
            | false =>
              rw [hF, if_neg (by decide)] at HR
              clear hF
              rintro e w3 ⟨rfl, b3⟩
              have Z3 := hide ((unhide Z2).below b3)
              have M3 := M2.below b3
              have R3 := R2.below b3
              have z3 := b3.size
              clear b3 Z2
              go_wp2_with fail
              refine (next_any _ k mIf R3 (unhide HT) (by decide)).mono ?_
              cases hF : mkB ts k mIf with
              | true =>
                rw [hF, if_pos rfl] at HR
                clear hF
                rintro e w4 ⟨rfl, b4⟩
                have Z4 := hide ((unhide Z3).below b4)
                have M4 := M3.below b4
                have R4 := R3.below b4
                have z4 := b4.size
                clear b4 Z3
                go_wp2_with fail
                refine (choice_any (d + 1) e1 (unhide HP) (unhide HT) _ k R4).mono ?_
                rw [← unhide HR]
                clear HR
                cases RES with
                | er c9 k9 =>
                  rintro e w9 ⟨n9, hk9, R9, hc9, rfl⟩
                  have Z9 := (unhide Z4).mv n9 (by omega)
                  have M9 := M4.trans n9
                  obtain ⟨y0, y1, y2, y3, y4, y5, y6, y7, y8, y9⟩ := Z9
                  unfold zV
                  go_wp2_with fail
                  refine bodyPost_ret (v := .tuple #[.agg #[.int .i64 0, .bool false, .int .i64 0, .int .i64 0, .string ⟨#[]⟩, .bool false, .bool false, .slice none 0 0], .int .i64 c9]) (by simp [results, Tryd.results61, go_sem, y0, y1, y2, y3, y4, y5, y6, y7, y8]) rfl ?_
                  exact ⟨by (repeat (first | with_reducible assumption | with_reducible exact Mv.refl _ _ | with_reducible refine Mv.alloc ?_ _ | (with_reducible refine Mv.own ?_ ?_ _; rotate_left; (focus (first | omega | (simp; done) | (simp; omega) | (dsimp only; omega)))) | with_reducible refine Mv.put ?_ _ _ | with_reducible refine Mv.drewN ?_ _ | with_reducible refine Mv.drew ?_)), by omega, by (repeat (first | with_reducible assumption | with_reducible refine Rd.alloc ?_ _ | (with_reducible refine Rd.own ?_ R0 ?_ _; rotate_left; (focus (first | omega | (simp; done) | (simp; omega) | (dsimp only; omega)))) | with_reducible refine Rd.drewN ?_ _ | with_reducible refine Rd.drew ?_)), hc9, rfl⟩
                | ok x9 k9 =>
                  rintro e w9 ⟨n9, hk9, R9, T, rfl, hin, hbr⟩
                  have Z9 := (unhide Z4).mv n9 (by omega)
                  have M9 := M4.trans n9
                  have HIN := hin.weak (Q' := Fr (w.heap.size + 1)) (fun g _ hg => by unfold Fr at hg ⊢; first | omega | (simp at hg; omega) | (simp [World.setCell] at hg; omega))
                  obtain ⟨ek, eb, em, es, et, elo, ehi, ea, el, ec, ekid, rfl⟩ := hin.form
                  clear hin
                  obtain ⟨y0, y1, y2, y3, y4, y5, y6, y7, y8, y9⟩ := Z9
                  dsimp only [XT.val]
                  go_wp2_with fail
                  refine bodyPost_ret (v := .tuple #[.agg #[.int .i64 ek, .bool eb, .int .i64 em, .int .i64 es, .string et, .bool elo, .bool ehi, .slice ea el ec], .int .i64 0]) (by simp [results, Tryd.results61, go_sem, y0, y1, y2, y3, y4, y5, y6, y7, y8]) rfl ?_
                  exact post_ok (B := w.heap.size + 1) M9 R9 R0 (by omega) (Nat.le_refl _) (by omega) HIN hbr _ _ _ _ _ _ _ _
              | false =>
                rw [hF, if_neg (by decide)] at HR
                clear hF
                rintro e w4 ⟨rfl, b4⟩
                have Z4 := hide ((unhide Z3).below b4)
                have M4 := M3.below b4
                have R4 := R3.below b4
                have z4 := b4.size
                clear b4 Z3
                go_wp2_with fail
                refine (constant_any (unhide HT) _ k R4).mono ?_
                rw [← unhide HR]
                clear HR
                cases RES with
                | er c9 k9 =>
                  rintro e w9 ⟨n9, hk9, R9, hc9, rfl⟩
                  have Z9 := (unhide Z4).mv n9 (by omega)
                  have M9 := M4.trans n9
                  obtain ⟨y0, y1, y2, y3, y4, y5, y6, y7, y8, y9⟩ := Z9
                  unfold zV
                  go_wp2_with fail
                  refine bodyPost_ret (v := .tuple #[.agg #[.int .i64 0, .bool false, .int .i64 0, .int .i64 0, .string ⟨#[]⟩, .bool false, .bool false, .slice none 0 0], .int .i64 c9]) (by simp [results, Tryd.results61, go_sem, y0, y1, y2, y3, y4, y5, y6, y7, y8]) rfl ?_
                  exact ⟨by (repeat (first | with_reducible assumption | with_reducible exact Mv.refl _ _ | with_reducible refine Mv.alloc ?_ _ | (with_reducible refine Mv.own ?_ ?_ _; rotate_left; (focus (first | omega | (simp; done) | (simp; omega) | (dsimp only; omega)))) | with_reducible refine Mv.put ?_ _ _ | with_reducible refine Mv.drewN ?_ _ | with_reducible refine Mv.drew ?_)), by omega, by (repeat (first | with_reducible assumption | with_reducible refine Rd.alloc ?_ _ | (with_reducible refine Rd.own ?_ R0 ?_ _; rotate_left; (focus (first | omega | (simp; done) | (simp; omega) | (dsimp only; omega)))) | with_reducible refine Rd.drewN ?_ _ | with_reducible refine Rd.drew ?_)), hc9, rfl⟩
                | ok x9 k9 =>
                  rintro e w9 ⟨n9, hk9, R9, T, rfl, hin, hbr⟩
                  have Z9 := (unhide Z4).mv n9 (by omega)
                  have M9 := M4.trans n9
                  have HIN := hin.weak (Q' := Fr (w.heap.size + 1)) (fun g _ hg => by unfold Fr at hg ⊢; first | omega | (simp at hg; omega) | (simp [World.setCell] at hg; omega))
                  obtain ⟨ek, eb, em, es, et, elo, ehi, ea, el, ec, ekid, rfl⟩ := hin.form
                  clear hin
                  obtain ⟨y0, y1, y2, y3, y4, y5, y6, y7, y8, y9⟩ := Z9
                  dsimp only [XT.val]
                  go_wp2_with fail
                  refine bodyPost_ret (v := .tuple #[.agg #[.int .i64 ek, .bool eb, .int .i64 em, .int .i64 es, .string et, .bool elo, .bool ehi, .slice ea el ec], .int .i64 0]) (by simp [results, Tryd.results61, go_sem, y0, y1, y2, y3, y4, y5, y6, y7, y8]) rfl ?_
                  exact post_ok (B := w.heap.size + 1) M9 R9 R0 (by omega) (Nat.le_refl _) (by omega) HIN hbr _ _ _ _ _ _ _ _
        · have e1' : ((tk : Int) == 1) = false := by simp; omega
          clear WD hw1 h1
          go_enter Tryd.func61, Tryd.ntmps61
          go_wp2_with fail
          refine (unhide HH).mono ?_
          rintro e w1 ⟨rfl, b1⟩
          have Z1 := (unhide z0).below b1
          have M1 := ((Mv.refl b w).alloc _).below b1
          have R1 := (R0.alloc _).below b1
          have z1 : w.heap.size + 1 ≤ w1.heap.size := by have := b1.size; simpa using this
          clear b1 A0 A1 A2 A3 HL HH z0
          go_wp2_with fail
          refine (pass_any _ k _ [[91]] _ ((R1.alloc _).alloc _) (unhide HT) (Marks.at (by simp) (by simp; omega) (by decide) (by decide))).mono ?_
          rw [fnd_one]
          cases hF : mkB ts k [91] with
          | true =>
            rw [if_pos rfl]
            rw [hF, if_pos rfl] at HR
            clear hF
            rintro e w2 ⟨n2, rfl, R2⟩
            have Z2 := hide (((Z1.alloc _).alloc _).mv n2 (by omega))
            have M2 := ((M1.alloc _).alloc _).trans n2
            have z2 : w1.heap.size + 2 ≤ w2.heap.size := by have := n2.size; simpa using this
            clear n2 Z1
            go_wp2_with fail
            refine (listed_any (d + 1) e1 (unhide HP) (unhide HT) _ (k + 1) R2).mono ?_
            rw [← unhide HR]
            clear HR
            cases RES with
            | er c9 k9 =>
              rintro e w9 ⟨n9, hk9, R9, hc9, rfl⟩
              have Z9 := (unhide Z2).mv n9 (by omega)
              have M9 := M2.trans n9
              obtain ⟨y0, y1, y2, y3, y4, y5, y6, y7, y8, y9⟩ := Z9
              unfold zV
              go_wp2_with fail
              refine bodyPost_ret (v := .tuple #[.agg #[.int .i64 0, .bool false, .int .i64 0, .int .i64 0, .string ⟨#[]⟩, .bool false, .bool false, .slice none 0 0], .int .i64 c9]) (by simp [results, Tryd.results61, go_sem, y0, y1, y2, y3, y4, y5, y6, y7, y8]) rfl ?_
              exact ⟨by (repeat (first | with_reducible assumption | with_reducible exact Mv.refl _ _ | with_reducible refine Mv.alloc ?_ _ | (with_reducible refine Mv.own ?_ ?_ _; rotate_left; (focus (first | omega | (simp; done) | (simp; omega) | (dsimp only; omega)))) | with_reducible refine Mv.put ?_ _ _ | with_reducible refine Mv.drewN ?_ _ | with_reducible refine Mv.drew ?_)), by omega, by (repeat (first | with_reducible assumption | with_reducible refine Rd.alloc ?_ _ | (with_reducible refine Rd.own ?_ R0 ?_ _; rotate_left; (focus (first | omega | (simp; done) | (simp; omega) | (dsimp only; omega)))) | with_reducible refine Rd.drewN ?_ _ | with_reducible refine Rd.drew ?_)), hc9, rfl⟩
            | ok x9 k9 =>
              rintro e w9 ⟨n9, hk9, R9, T, rfl, hin, hbr⟩
              have Z9 := (unhide Z2).mv n9 (by omega)
              have M9 := M2.trans n9
              have HIN := hin.weak (Q' := Fr (w.heap.size + 1)) (fun g _ hg => by unfold Fr at hg ⊢; first | omega | (simp at hg; omega) | (simp [World.setCell] at hg; omega))
              obtain ⟨ek, eb, em, es, et, elo, ehi, ea, el, ec, ekid, rfl⟩ := hin.form
              clear hin
              obtain ⟨y0, y1, y2, y3, y4, y5, y6, y7, y8, y9⟩ := Z9
              dsimp only [XT.val]
              go_wp2_with fail
              refine bodyPost_ret (v := .tuple #[.agg #[.int .i64 ek, .bool eb, .int .i64 em, .int .i64 es, .string et, .bool elo, .bool ehi, .slice ea el ec], .int .i64 0]) (by simp [results, Tryd.results61, go_sem, y0, y1, y2, y3, y4, y5, y6, y7, y8]) rfl ?_
              exact post_ok (B := w.heap.size + 1) M9 R9 R0 (by omega) (Nat.le_refl _) (by omega) HIN hbr _ _ _ _ _ _ _ _
          | false =>
            rw [if_neg (by decide)]
            rw [hF, if_neg (by decide)] at HR
            clear hF
            rintro e w2 ⟨n2, rfl, R2⟩
            have Z2 := hide (((Z1.alloc _).alloc _).mv n2 (by omega))
            have M2 := ((M1.alloc _).alloc _).trans n2
            have z2 : w1.heap.size + 2 ≤ w2.heap.size := by have := n2.size; simpa using this
            clear n2 Z1
            go_wp2_with fail
            refine (next_any _ k [40] R2 (unhide HT) (by decide)).mono ?_
            cases hF : mkB ts k [40] with
            | true =>
              have HF := hide hF
              rw [hF, if_pos rfl] at HR
              clear hF
              rintro e w3 ⟨rfl, b3⟩
              have Z3 := hide ((unhide Z2).below b3)
              have M3 := M2.below b3
              have R3 := R2.below b3
              have z3 := b3.size
              clear b3 Z2
              go_wp2_with fail
              refine (bracketed_any (d + 1) e1 (unhide HP) (unhide HT) _ k R3 (unhide HF)).mono ?_
              rw [← unhide HR]
              clear HR
              cases RES with
              | er c9 k9 =>
                rintro e w9 ⟨n9, hk9, R9, hc9, rfl⟩
                have Z9 := (unhide Z3).mv n9 (by omega)
                have M9 := M3.trans n9
                obtain ⟨y0, y1, y2, y3, y4, y5, y6, y7, y8, y9⟩ := Z9
                unfold zV
                go_wp2_with fail
                refine bodyPost_ret (v := .tuple #[.agg #[.int .i64 0, .bool false, .int .i64 0, .int .i64 0, .string ⟨#[]⟩, .bool false, .bool false, .slice none 0 0], .int .i64 c9]) (by simp [results, Tryd.results61, go_sem, y0, y1, y2, y3, y4, y5, y6, y7, y8]) rfl ?_
                exact ⟨by (repeat (first | with_reducible assumption | with_reducible exact Mv.refl _ _ | with_reducible refine Mv.alloc ?_ _ | (with_reducible refine Mv.own ?_ ?_ _; rotate_left; (focus (first | omega | (simp; done) | (simp; omega) | (dsimp only; omega)))) | with_reducible refine Mv.put ?_ _ _ | with_reducible refine Mv.drewN ?_ _ | with_reducible refine Mv.drew ?_)), by omega, by (repeat (first | with_reducible assumption | with_reducible refine Rd.alloc ?_ _ | (with_reducible refine Rd.own ?_ R0 ?_ _; rotate_left; (focus (first | omega | (simp; done) | (simp; omega) | (dsimp only; omega)))) | with_reducible refine Rd.drewN ?_ _ | with_reducible refine Rd.drew ?_)), hc9, rfl⟩
              | ok x9 k9 =>
                rintro e w9 ⟨n9, hk9, R9, T, rfl, hin, hbr⟩
                have Z9 := (unhide Z3).mv n9 (by omega)
                have M9 := M3.trans n9
                have HIN := hin.weak (Q' := Fr (w.heap.size + 1)) (fun g _ hg => by unfold Fr at hg ⊢; first | omega | (simp at hg; omega) | (simp [World.setCell] at hg; omega))
                obtain ⟨ek, eb, em, es, et, elo, ehi, ea, el, ec, ekid, rfl⟩ := hin.form
                clear hin
                obtain ⟨y0, y1, y2, y3, y4, y5, y6, y7, y8, y9⟩ := Z9
                dsimp only [XT.val]
                go_wp2_with fail
                refine bodyPost_ret (v := .tuple #[.agg #[.int .i64 ek, .bool eb, .int .i64 em, .int .i64 es, .string et, .bool elo, .bool ehi, .slice ea el ec], .int .i64 0]) (by simp [results, Tryd.results61, go_sem, y0, y1, y2, y3, y4, y5, y6, y7, y8]) rfl ?_
                exact post_ok (B := w.heap.size + 1) M9 R9 R0 (by omega) (Nat.le_refl _) (by omega) HIN hbr _ _ _ _ _ _ _ _
            | false =>
              rw [hF, if_neg (by decide)] at HR
              clear hF
              rintro e w3 ⟨rfl, b3⟩
              have Z3 := hide ((unhide Z2).below b3)
              have M3 := M2.below b3
              have R3 := R2.below b3
              have z3 := b3.size
              clear b3 Z2
              go_wp2_with fail
              refine (next_any _ k mIf R3 (unhide HT) (by decide)).mono ?_
              cases hF : mkB ts k mIf with
              | true =>
                rw [hF, if_pos rfl] at HR
                clear hF
                rintro e w4 ⟨rfl, b4⟩
                have Z4 := hide ((unhide Z3).below b4)
                have M4 := M3.below b4
                have R4 := R3.below b4
                have z4 := b4.size
                clear b4 Z3
                go_wp2_with fail
                refine (choice_any (d + 1) e1 (unhide HP) (unhide HT) _ k R4).mono ?_
                rw [← unhide HR]
                clear HR
                cases RES with
                | er c9 k9 =>
                  rintro e w9 ⟨n9, hk9, R9, hc9, rfl⟩
                  have Z9 := (unhide Z4).mv n9 (by omega)
                  have M9 := M4.trans n9
                  obtain ⟨y0, y1, y2, y3, y4, y5, y6, y7, y8, y9⟩ := Z9
                  unfold zV
                  go_wp2_with fail
                  refine bodyPost_ret (v := .tuple #[.agg #[.int .i64 0, .bool false, .int .i64 0, .int .i64 0, .string ⟨#[]⟩, .bool false, .bool false, .slice none 0 0], .int .i64 c9]) (by simp [results, Tryd.results61, go_sem, y0, y1, y2, y3, y4, y5, y6, y7, y8]) rfl ?_
                  exact ⟨by (repeat (first | with_reducible assumption | with_reducible exact Mv.refl _ _ | with_reducible refine Mv.alloc ?_ _ | (with_reducible refine Mv.own ?_ ?_ _; rotate_left; (focus (first | omega | (simp; done) | (simp; omega) | (dsimp only; omega)))) | with_reducible refine Mv.put ?_ _ _ | with_reducible refine Mv.drewN ?_ _ | with_reducible refine Mv.drew ?_)), by omega, by (repeat (first | with_reducible assumption | with_reducible refine Rd.alloc ?_ _ | (with_reducible refine Rd.own ?_ R0 ?_ _; rotate_left; (focus (first | omega | (simp; done) | (simp; omega) | (dsimp only; omega)))) | with_reducible refine Rd.drewN ?_ _ | with_reducible refine Rd.drew ?_)), hc9, rfl⟩
                | ok x9 k9 =>
                  rintro e w9 ⟨n9, hk9, R9, T, rfl, hin, hbr⟩
                  have Z9 := (unhide Z4).mv n9 (by omega)
                  have M9 := M4.trans n9
                  have HIN := hin.weak (Q' := Fr (w.heap.size + 1)) (fun g _ hg => by unfold Fr at hg ⊢; first | omega | (simp at hg; omega) | (simp [World.setCell] at hg; omega))
                  obtain ⟨ek, eb, em, es, et, elo, ehi, ea, el, ec, ekid, rfl⟩ := hin.form
                  clear hin
                  obtain ⟨y0, y1, y2, y3, y4, y5, y6, y7, y8, y9⟩ := Z9
                  dsimp only [XT.val]
                  go_wp2_with fail
                  refine bodyPost_ret (v := .tuple #[.agg #[.int .i64 ek, .bool eb, .int .i64 em, .int .i64 es, .string et, .bool elo, .bool ehi, .slice ea el ec], .int .i64 0]) (by simp [results, Tryd.results61, go_sem, y0, y1, y2, y3, y4, y5, y6, y7, y8]) rfl ?_
                  exact post_ok (B := w.heap.size + 1) M9 R9 R0 (by omega) (Nat.le_refl _) (by omega) HIN hbr _ _ _ _ _ _ _ _
              | false =>
                rw [hF, if_neg (by decide)] at HR
                clear hF
                rintro e w4 ⟨rfl, b4⟩
                have Z4 := hide ((unhide Z3).below b4)
                have M4 := M3.below b4
                have R4 := R3.below b4
                have z4 := b4.size
                clear b4 Z3
                go_wp2_with fail
                refine (constant_any (unhide HT) _ k R4).mono ?_
                rw [← unhide HR]
                clear HR
                cases RES with
                | er c9 k9 =>
                  rintro e w9 ⟨n9, hk9, R9, hc9, rfl⟩
                  have Z9 := (unhide Z4).mv n9 (by omega)
                  have M9 := M4.trans n9
                  obtain ⟨y0, y1, y2, y3, y4, y5, y6, y7, y8, y9⟩ := Z9
                  unfold zV
                  go_wp2_with fail
                  refine bodyPost_ret (v := .tuple #[.agg #[.int .i64 0, .bool false, .int .i64 0, .int .i64 0, .string ⟨#[]⟩, .bool false, .bool false, .slice none 0 0], .int .i64 c9]) (by simp [results, Tryd.results61, go_sem, y0, y1, y2, y3, y4, y5, y6, y7, y8]) rfl ?_
                  exact ⟨by (repeat (first | with_reducible assumption | with_reducible exact Mv.refl _ _ | with_reducible refine Mv.alloc ?_ _ | (with_reducible refine Mv.own ?_ ?_ _; rotate_left; (focus (first | omega | (simp; done) | (simp; omega) | (dsimp only; omega)))) | with_reducible refine Mv.put ?_ _ _ | with_reducible refine Mv.drewN ?_ _ | with_reducible refine Mv.drew ?_)), by omega, by (repeat (first | with_reducible assumption | with_reducible refine Rd.alloc ?_ _ | (with_reducible refine Rd.own ?_ R0 ?_ _; rotate_left; (focus (first | omega | (simp; done) | (simp; omega) | (dsimp only; omega)))) | with_reducible refine Rd.drewN ?_ _ | with_reducible refine Rd.drew ?_)), hc9, rfl⟩
                | ok x9 k9 =>
                  rintro e w9 ⟨n9, hk9, R9, T, rfl, hin, hbr⟩
                  have Z9 := (unhide Z4).mv n9 (by omega)
                  have M9 := M4.trans n9
                  have HIN := hin.weak (Q' := Fr (w.heap.size + 1)) (fun g _ hg => by unfold Fr at hg ⊢; first | omega | (simp at hg; omega) | (simp [World.setCell] at hg; omega))
                  obtain ⟨ek, eb, em, es, et, elo, ehi, ea, el, ec, ekid, rfl⟩ := hin.form
                  clear hin
                  obtain ⟨y0, y1, y2, y3, y4, y5, y6, y7, y8, y9⟩ := Z9
                  dsimp only [XT.val]
                  go_wp2_with fail
                  refine bodyPost_ret (v := .tuple #[.agg #[.int .i64 ek, .bool eb, .int .i64 em, .int .i64 es, .string et, .bool elo, .bool ehi, .slice ea el ec], .int .i64 0]) (by simp [results, Tryd.results61, go_sem, y0, y1, y2, y3, y4, y5, y6, y7, y8]) rfl ?_
                  exact post_ok (B := w.heap.size + 1) M9 R9 R0 (by omega) (Nat.le_refl _) (by omega) HIN hbr _ _ _ _ _ _ _ _

set_option maxHeartbeats 4000000 in
theorem unary_any (d : Nat) (u1 e1 : Nat → RX) (hu : PartOf b a cap ts 59 (d + 1) u1) (hp : PartOf b a cap ts 21 (d + 1) e1) (hts : GoodTs ts) (hd : d ≤ 8) : PartOf b a cap ts 59 d (unaryP ts u1 e1) := by
  intro w k R
  have R0 := R
  have hlt := R.lt
  have HU := hide hu
  have HA := hide (atom_any d e1 hp hts (by omega))
  have HT := hide hts
  clear R hp hts hu
  have HR := hide (unaryP.eq_1 ts u1 e1 k)
  generalize unaryP ts u1 e1 k = RES at *
  have z0 := hide (ZB.new w 28)
  go_enter Tryd.func59, Tryd.ntmps59
  go_wp2_with fail
  refine (pass_any _ k _ [[45]] _ ((R0.alloc _).alloc _) (unhide HT) (Marks.at (by simp) (by simp; omega) (by decide) (by decide))).mono ?_
  rw [fnd_one]
  cases hF : mkB ts k [45] with
  | false =>
    rw [if_neg (by decide)]
    rw [hF, if_neg (by decide)] at HR
    clear hF
    rintro e w1 ⟨n1, rfl, R1⟩
    have Z1 := hide (((unhide z0).alloc _).mv n1 (by omega))
    have M1 := (((Mv.refl b w).alloc _).alloc _).trans n1
    have z1 : w.heap.size + 2 ≤ w1.heap.size := by have := n1.size; simpa using this
    clear n1 z0
    go_wp2_with fail
    refine (unhide HA _ k R1).mono ?_
    rw [← unhide HR]
    clear HR
    cases RES with
    | er c9 k9 =>
      rintro e w9 ⟨n9, hk9, R9, hc9, rfl⟩
      have Z9 := (unhide Z1).mv n9 (by omega)
      have M9 := M1.trans n9
      obtain ⟨y0, y1, y2, y3, y4, y5, y6, y7, y8, y9⟩ := Z9
      unfold zV
      go_wp2_with fail
      refine bodyPost_ret (v := .tuple #[.agg #[.int .i64 0, .bool false, .int .i64 0, .int .i64 0, .string ⟨#[]⟩, .bool false, .bool false, .slice none 0 0], .int .i64 c9]) (by simp [results, Tryd.results59, go_sem, y0, y1, y2, y3, y4, y5, y6, y7, y8]) rfl ?_
      exact ⟨by (repeat (first | with_reducible assumption | with_reducible exact Mv.refl _ _ | with_reducible refine Mv.alloc ?_ _ | (with_reducible refine Mv.own ?_ ?_ _; rotate_left; (focus (first | omega | (simp; done) | (simp; omega) | (dsimp only; omega)))) | with_reducible refine Mv.put ?_ _ _ | with_reducible refine Mv.drewN ?_ _ | with_reducible refine Mv.drew ?_)), by omega, by (repeat (first | with_reducible assumption | with_reducible refine Rd.alloc ?_ _ | (with_reducible refine Rd.own ?_ R0 ?_ _; rotate_left; (focus (first | omega | (simp; done) | (simp; omega) | (dsimp only; omega)))) | with_reducible refine Rd.drewN ?_ _ | with_reducible refine Rd.drew ?_)), hc9, rfl⟩
    | ok x9 k9 =>
      rintro e w9 ⟨n9, hk9, R9, T, rfl, hin, hbr⟩
      have Z9 := (unhide Z1).mv n9 (by omega)
      have M9 := M1.trans n9
      have HIN := hin.weak (Q' := Fr (w.heap.size + 1)) (fun g _ hg => by unfold Fr at hg ⊢; first | omega | (simp at hg; omega) | (simp [World.setCell] at hg; omega))
      obtain ⟨ek, eb, em, es, et, elo, ehi, ea, el, ec, ekid, rfl⟩ := hin.form
      clear hin
      obtain ⟨y0, y1, y2, y3, y4, y5, y6, y7, y8, y9⟩ := Z9
      dsimp only [XT.val]
      go_wp2_with fail
      refine bodyPost_ret (v := .tuple #[.agg #[.int .i64 ek, .bool eb, .int .i64 em, .int .i64 es, .string et, .bool elo, .bool ehi, .slice ea el ec], .int .i64 0]) (by simp [results, Tryd.results59, go_sem, y0, y1, y2, y3, y4, y5, y6, y7, y8]) rfl ?_
      exact post_ok (B := w.heap.size + 1) M9 R9 R0 (by omega) (Nat.le_refl _) (by omega) HIN hbr _ _ _ _ _ _ _ _
  | true =>
    rw [if_pos rfl]
    rw [hF, if_pos rfl] at HR
    clear hF
    rintro e w1 ⟨n1, rfl, R1⟩
    have Z1 := hide (((unhide z0).alloc _).mv n1 (by omega))
    have M1 := (((Mv.refl b w).alloc _).alloc _).trans n1
    have z1 : w.heap.size + 2 ≤ w1.heap.size := by have := n1.size; simpa using this
    clear n1 z0
    go_wp2_with fail
    refine (unhide HU _ (k + 1) R1).mono ?_
    cases hE : u1 (k + 1) with
    | er c2 k2 =>
      rw [hE] at HR
      clear hE
      rintro e w2 ⟨n2, hk2, R2, hc2, rfl⟩
      have Z2 := (unhide Z1).mv n2 (by omega)
      have M2 := M1.trans n2
      clear n2 Z1
      obtain ⟨y0, y1, y2, y3, y4, y5, y6, y7, y8, y9⟩ := Z2
      unfold zV
      go_wp2_with fail
      refine bodyPost_ret (v := .tuple #[.agg #[.int .i64 0, .bool false, .int .i64 0, .int .i64 0, .string ⟨#[]⟩, .bool false, .bool false, .slice none 0 0], .int .i64 c2]) (by simp [results, Tryd.results59, go_sem, y0, y1, y2, y3, y4, y5, y6, y7, y8]) rfl ?_
      rw [unhide HR]
      exact ⟨by (repeat (first | with_reducible assumption | with_reducible exact Mv.refl _ _ | with_reducible refine Mv.alloc ?_ _ | (with_reducible refine Mv.own ?_ ?_ _; rotate_left; (focus (first | omega | (simp; done) | (simp; omega) | (dsimp only; omega)))) | with_reducible refine Mv.put ?_ _ _ | with_reducible refine Mv.drewN ?_ _ | with_reducible refine Mv.drew ?_)), by omega, by (repeat (first | with_reducible assumption | with_reducible refine Rd.alloc ?_ _ | (with_reducible refine Rd.own ?_ R0 ?_ _; rotate_left; (focus (first | omega | (simp; done) | (simp; omega) | (dsimp only; omega)))) | with_reducible refine Rd.drewN ?_ _ | with_reducible refine Rd.drew ?_)), hc2, rfl⟩
    | ok x2 k2 =>
      rw [hE] at HR
      clear hE
      rintro e w2 ⟨n2, hk2, R2, T, rfl, hin, hbr⟩
      have Z2 := (unhide Z1).mv n2 (by omega)
      have M2 := M1.trans n2
      have z2 := n2.size
      have HI := hin.weak (Q' := fun g => w.heap.size + 1 ≤ g) (fun g _ hg => by unfold Fr at hg; omega)
      clear n2 Z1
      obtain ⟨xk, xb, xm, xs, xt, xlo, xhi, xa, xl, xc, xkid, rfl⟩ := hin.form
      clear hin
      obtain ⟨y0, y1, y2, y3, y4, y5, y6, y7, y8, y9⟩ := Z2
      dsimp only [XT.val]
      go_wp2_with fail
      refine bodyPost_ret (v := .tuple #[.agg #[.int .i64 7, .bool false, .int .i64 0, .int .i64 0, .string ⟨#[]⟩, .bool false, .bool false, .slice (some ⟨w2.heap.size + 1, 0, none⟩) 1 1], .int .i64 0]) (by simp [results, Tryd.results59, go_sem, y0, y1, y2, y3, y4, y5, y6, y7, y8]) rfl ?_
      rw [unhide HR]
      refine ⟨by (repeat (first | with_reducible assumption | with_reducible exact Mv.refl _ _ | with_reducible refine Mv.alloc ?_ _ | (with_reducible refine Mv.own ?_ ?_ _; rotate_left; (focus (first | omega | (simp; done) | (simp; omega) | (dsimp only; omega)))) | with_reducible refine Mv.put ?_ _ _ | with_reducible refine Mv.drewN ?_ _ | with_reducible refine Mv.drew ?_)), by omega, by (repeat (first | with_reducible assumption | with_reducible refine Rd.alloc ?_ _ | (with_reducible refine Rd.own ?_ R0 ?_ _; rotate_left; (focus (first | omega | (simp; done) | (simp; omega) | (dsimp only; omega)))) | with_reducible refine Rd.drewN ?_ _ | with_reducible refine Rd.drew ?_)), .mk 7 false 0 0 ⟨#[]⟩ false false (some ⟨w2.heap.size + 1, 0, none⟩) 1 1 (fun i => [XT.mk xk xb xm xs xt xlo xhi xa xl xc xkid].getD i .none), rfl, ?_, ?_⟩
      · refine XT.In.weak (Q := fun g => w.heap.size + 1 ≤ g) ?_ (fun g _ hg => by unfold Fr; omega)
        refine in_row (by show w.heap.size + 1 ≤ _; omega) [XT.mk xk xb xm xs xt xlo xhi xa xl xc xkid] (by simp [maxLen]) (row_block (heap_at (by simp [World.setCell]) _) _ (by simp [mk_cells]) rfl) ?_ 7 false 0 0 ⟨#[]⟩ _ _ 1
        simp only [List.mem_cons, List.not_mem_nil, or_false, forall_eq]
        (repeat (first | with_reducible assumption | with_reducible refine XT.In.alloc ?_ _ | with_reducible refine XT.In.drew ?_ | with_reducible refine XT.In.drewN ?_ _ | (with_reducible refine XT.In.set ?_ ?_ _; rotate_left; (intro g hg; (focus (first | omega | (simp; done) | (simp; omega) | (dsimp only; omega)))))))
      · rw [← hbr]
        exact XT.bare_mk 7 false 0 0 ⟨#[]⟩ false false (some ⟨w2.heap.size + 1, 0, none⟩) 1 [XT.mk xk xb xm xs xt xlo xhi xa xl xc xkid]
set_option maxHeartbeats 1000000 in
theorem unary_deep (d : Nat) (hd : 8 < d) (hd2 : d ≤ 100) : PartOf b a cap ts 59 d (fun k => .er 12 k) := by
  intro w k R
  have R0 := R
  obtain ⟨y0, y1, y2, y3, y4, y5, y6, y7, y8, y9⟩ := ZB.new w 28
  go_enter Tryd.func59, Tryd.ntmps59
  go_wp2_with fail
  refine bodyPost_ret (v := .tuple #[.agg #[.int .i64 0, .bool false, .int .i64 0, .int .i64 0, .string ⟨#[]⟩, .bool false, .bool false, .slice none 0 0], .int .i64 12]) (by simp [results, Tryd.results59, go_sem]) rfl ?_
  exact ⟨by (repeat (first | with_reducible assumption | with_reducible exact Mv.refl _ _ | with_reducible refine Mv.alloc ?_ _ | (with_reducible refine Mv.own ?_ ?_ _; rotate_left; (focus (first | omega | (simp; done) | (simp; omega) | (dsimp only; omega)))) | with_reducible refine Mv.put ?_ _ _ | with_reducible refine Mv.drewN ?_ _ | with_reducible refine Mv.drew ?_)), Nat.le_refl _, by (repeat (first | with_reducible assumption | with_reducible refine Rd.alloc ?_ _ | (with_reducible refine Rd.own ?_ R0 ?_ _; rotate_left; (focus (first | omega | (simp; done) | (simp; omega) | (dsimp only; omega)))) | with_reducible refine Rd.drewN ?_ _ | with_reducible refine Rd.drew ?_)), rfl, rfl⟩
end Go.Proofs.YtdlfgnmcokdceabDoor

/- QAtom QSignM: laid together. -/
import Derived.Test.YtdlfgnmcokdceabDoorGM
import Derived.Test.YtdlfgnmcokdceabDoorGG
/- The contract of the document's atom. (Printed by mkqatom.py.) -/
namespace Go.Proofs.YtdlfgnmcokdceabDoor
open Go.RowKit
set_option linter.unusedVariables false
set_option linter.unusedSimpArgs false
variable {b : Nat} {a : Option Addr} {cap : Nat} {ts : List Tk} {en : Int}

def XD (w : World) (g : Nat) (m s : Int) : Prop := g < w.heap.size ∧ w.cell? ⟨g, 0, none⟩ = some (.int .i64 m) ∧ w.cell? ⟨g, 1, none⟩ = some (.int .i64 s)
theorem QS.le {w : World} {k k0 : Nat} {s : St} (h : QS b a cap ts en w k s) (hk : k0 ≤ k) : QS b a cap ts en w k0 s := by
  cases s with
  | inl kk => exact ⟨Nat.le_trans hk h.1, h.2⟩
  | inr x => obtain ⟨hc, k2, hk2, hq⟩ := h; exact ⟨hc, k2, Nat.le_trans hk hk2, hq⟩

set_option maxHeartbeats 8000000 in
set_option maxRecDepth 10000 in
theorem qatom_text (d : Nat) (e1 : Nat → RX) (hp : QPartOf b a cap ts en 24 (d + 1) e1) (hts : GoodTs ts) (h9 : ts.length ≤ 900) (hd : d ≤ 8) (w : World) (k : Nat) (R0 : Qd b a cap ts en w k 0 0) (hk : k < ts.length) (tt : List UInt8) (tp : Nat) (hTK : ts[k] = (3, tt, tp)) (hl : tt.length ≤ 1000) :
    Calls Tryd.prog 62 #[.pointer (some ⟨b, 0, none⟩), .int .i64 (d : Int)] w fun e w' => QPost b a cap ts en (.ok (textX tt) (k + 1)) k w e w' := by
  have hlt := R0.lt
  have hn := hts.1
  have HT := hide hts
  have HP := hide hp
  clear hts hp

  obtain ⟨g, rfl, hgb, h0, h1, h2, h3⟩ := R0.row k hk
  have hkl : ¬ (ts.length : Int) ≤ (k : Int) := by omega
  have ez := ZB.new w 28
  have RA := R0.alloc (zO 28)
  obtain ⟨ra, rb, hc0, hc1, hc2, hc3, hc4, hfr, -⟩ := RA
  obtain ⟨ta, tb, tc, td⟩ := (show Tok3 w g (k * 3) ts[k] from ⟨h0, h1, h2, h3⟩).below (below1 w (zO 28))
  rw [hTK] at tb tc td
  dsimp only at tb tc td
  have RH := hide R0
  have b0 := below1 w (zO 28)
  clear h0 h1 h2 h3
  go_enter Tryd.func62, Tryd.ntmps62
  go_wp2_with fail
  go_quiet (fail)
  go_wp2_with fail
  have BV : Below w.heap.size w ((w.alloc (zO 28)).drewN nq) := below_dN b0 nq
  have zV : w.heap.size + 1 ≤ ((w.alloc (zO 28)).drewN nq).heap.size := by show _ ≤ (w.alloc (zO 28)).heap.size; simp
  have lV : b < ((w.alloc (zO 28)).drewN nq).heap.size := ra
  have gV : g < ((w.alloc (zO 28)).drewN nq).heap.size := ta
  have u0 : ((w.alloc (zO 28)).drewN nq).cell? ⟨b, 0, none⟩ = _ := hc0
  have u1 : ((w.alloc (zO 28)).drewN nq).cell? ⟨b, 1, none⟩ = _ := hc1
  have v1 : ((w.alloc (zO 28)).drewN nq).cell? ⟨g, k * 3, none⟩ = _ := tb
  have v2 : ((w.alloc (zO 28)).drewN nq).cell? ⟨g, k * 3 + 1, none⟩ = _ := tc
  have v3 : ((w.alloc (zO 28)).drewN nq).cell? ⟨g, k * 3 + 2, none⟩ = _ := td
  have fV : ∀ o, ((w.alloc (zO 28)).drewN nq).frozen? ⟨b, o, none⟩ = false := hfr
  have ZV := hide (ez.below (below_dN (Below.refl _ _) nq))
  have RV := hide ((R0.alloc (zO 28)).drewN nq)
  generalize (w.alloc (zO 28)).drewN nq = V at *
  clear hc0 hc1 hc2 hc3 hc4 hfr ra rb ta tb tc td ez b0
  go_region
  all_goals
    obtain ⟨y0, y1, y2, y3, y4, y5, y6, y7, y8, y9⟩ := unhide ZV
    go_wp2_with fail
    refine bodyPost_ret (v := .agg #[.int .i64 4, .bool false, .int .i64 0, .int .i64 0, .string ⟨tt.toArray⟩, .bool false, .bool false, .slice none 0 0]) (by simp [results, Tryd.results62, go_sem, y0, y1, y2, y3, y4, y5, y6, y7, y8]) rfl ?_
    have hP := (unhide RV).put (k' := k + 1) (by omega)
    rw [show (((k + 1 : Nat)) : Int) = (k : Int) + 1 by omega] at hP
    have MV := Mv.of_below (b := b) BV
    exact ⟨by (repeat (first | with_reducible assumption | with_reducible exact Mv.refl _ _ | with_reducible refine Mv.alloc ?_ _ | (with_reducible refine Mv.own ?_ ?_ _; rotate_left; (focus (first | omega | (simp; done) | (simp; omega) | (dsimp only; omega)))) | with_reducible refine Mv.put ?_ _ _ | with_reducible refine Mv.drewN ?_ _ | with_reducible refine Mv.drew ?_)), by omega, by (repeat (first | with_reducible assumption | with_reducible refine Qd.alloc ?_ _ | (with_reducible refine Qd.own ?_ R0 ?_ _; rotate_left; (focus (first | omega | (simp; done) | (simp; omega) | (dsimp only; omega)))) | with_reducible refine Qd.drewN ?_ _ | with_reducible refine Qd.drew ?_)), _, rfl, in_leaf _ _ _ _ _ _ _, leaf_bare _ _ _ _ _ _ _⟩

set_option maxHeartbeats 8000000 in
set_option maxRecDepth 10000 in
theorem qatom_num (d : Nat) (e1 : Nat → RX) (hp : QPartOf b a cap ts en 24 (d + 1) e1) (hts : GoodTs ts) (h9 : ts.length ≤ 900) (hd : d ≤ 8) (w : World) (k : Nat) (R0 : Qd b a cap ts en w k 0 0) (hk : k < ts.length) (tt : List UInt8) (tp : Nat) (hTK : ts[k] = (2, tt, tp)) (hl : tt.length ≤ 1000) :
    Calls Tryd.prog 62 #[.pointer (some ⟨b, 0, none⟩), .int .i64 (d : Int)] w fun e w' => QPost b a cap ts en (numP tt k) k w e w' := by
  have hlt := R0.lt
  have hn := hts.1
  have HT := hide hts
  have HP := hide hp
  clear hts hp
  have HR := hide (numP.eq_1 tt k)
  generalize numP tt k = RES at *
  have P := hide (fun w => (dec_both tt hl).2 w)
  generalize decP tt = D at *
  obtain ⟨dm, ds, de⟩ := D
  dsimp only at P HR
  obtain ⟨g, rfl, hgb, h0, h1, h2, h3⟩ := R0.row k hk
  have hkl : ¬ (ts.length : Int) ≤ (k : Int) := by omega
  have ez := ZB.new w 28
  have RA := R0.alloc (zO 28)
  obtain ⟨ra, rb, hc0, hc1, hc2, hc3, hc4, hfr, -⟩ := RA
  obtain ⟨ta, tb, tc, td⟩ := (show Tok3 w g (k * 3) ts[k] from ⟨h0, h1, h2, h3⟩).below (below1 w (zO 28))
  rw [hTK] at tb tc td
  dsimp only at tb tc td
  have RH := hide R0
  have b0 := below1 w (zO 28)
  clear h0 h1 h2 h3
  go_enter Tryd.func62, Tryd.ntmps62
  go_wp2_with fail
  go_quiet (fail)
  go_wp2_with fail
  have BV : Below w.heap.size w ((w.alloc (zO 28)).drewN nq) := below_dN b0 nq
  have zV : w.heap.size + 1 ≤ ((w.alloc (zO 28)).drewN nq).heap.size := by show _ ≤ (w.alloc (zO 28)).heap.size; simp
  have lV : b < ((w.alloc (zO 28)).drewN nq).heap.size := ra
  have gV : g < ((w.alloc (zO 28)).drewN nq).heap.size := ta
  have u0 : ((w.alloc (zO 28)).drewN nq).cell? ⟨b, 0, none⟩ = _ := hc0
  have u1 : ((w.alloc (zO 28)).drewN nq).cell? ⟨b, 1, none⟩ = _ := hc1
  have v1 : ((w.alloc (zO 28)).drewN nq).cell? ⟨g, k * 3, none⟩ = _ := tb
  have v2 : ((w.alloc (zO 28)).drewN nq).cell? ⟨g, k * 3 + 1, none⟩ = _ := tc
  have v3 : ((w.alloc (zO 28)).drewN nq).cell? ⟨g, k * 3 + 2, none⟩ = _ := td
  have fV : ∀ o, ((w.alloc (zO 28)).drewN nq).frozen? ⟨b, o, none⟩ = false := hfr
  have ZV := hide (ez.below (below_dN (Below.refl _ _) nq))
  have RV := hide ((R0.alloc (zO 28)).drewN nq)
  generalize (w.alloc (zO 28)).drewN nq = V at *
  clear hc0 hc1 hc2 hc3 hc4 hfr ra rb ta tb tc td ez b0
  go_region
  all_goals
    go_wp2_with fail
    refine (unhide P _).mono ?_
    rintro e w2 ⟨rfl, b2⟩
    have MV := Mv.of_below (b := b) BV
    have M2 := (MV.alloc _).drew.below b2
    have R2 := ((unhide RV).alloc _).drew.below b2
    have Z2 := hide ((((unhide ZV).alloc _).below (Below.refl _ _).drew).below b2)
    have z2 : V.heap.size + 1 ≤ w2.heap.size := by have := b2.size; simpa using this
    clear b2 u0 u1 v1 v2 v3 fV ZV RV MV
    by_cases hde : de = 0
    · subst hde
      rw [if_pos rfl] at HR
      have R2' := hide R2
      obtain ⟨y0, y1, y2, y3, y4, y5, y6, y7, y8, y9⟩ := unhide Z2
      obtain ⟨q1, q2, q3, q4, q5, q6, q7, q8, -⟩ := R2
      go_wp2_with fail
      refine bodyPost_ret (v := .agg #[.int .i64 3, .bool false, .int .i64 dm, .int .i64 ds, .string ⟨#[]⟩, .bool false, .bool false, .slice none 0 0]) (by simp [results, Tryd.results62, go_sem, y0, y1, y2, y3, y4, y5, y6, y7, y8]) rfl ?_
      rw [unhide HR]
      have hP := (unhide R2').put (k' := k + 1) (by omega)
      rw [show (((k + 1 : Nat)) : Int) = (k : Int) + 1 by omega] at hP
      exact ⟨by (repeat (first | with_reducible assumption | with_reducible exact Mv.refl _ _ | with_reducible refine Mv.alloc ?_ _ | (with_reducible refine Mv.own ?_ ?_ _; rotate_left; (focus (first | omega | (simp; done) | (simp; omega) | (dsimp only; omega)))) | with_reducible refine Mv.put ?_ _ _ | with_reducible refine Mv.drewN ?_ _ | with_reducible refine Mv.drew ?_)), by omega, by (repeat (first | with_reducible assumption | with_reducible refine Qd.alloc ?_ _ | (with_reducible refine Qd.own ?_ R0 ?_ _; rotate_left; (focus (first | omega | (simp; done) | (simp; omega) | (dsimp only; omega)))) | with_reducible refine Qd.drewN ?_ _ | with_reducible refine Qd.drew ?_)), _, rfl, in_leaf _ _ _ _ _ _ _, leaf_bare _ _ _ _ _ _ _⟩
    · rw [if_neg hde] at HR
      have hde' : (de != 0) = true := by simpa using hde
      clear hde
      have DB : XD (w2.alloc (Obj.cells #[.int .i64 dm, .int .i64 ds] 25)) w2.heap.size dm ds := ⟨by simp, by go_simp, by go_simp⟩
      go_wp2_with fail
      refine (fail_new _ k de (R2.alloc _) (unhide HT)).mono ?_
      rintro e w3 ⟨⟨v, rfl⟩, R3, n3⟩
      have M3 := (M2.alloc _).trans n3
      obtain ⟨y0, y1, y2, y3, y4, y5, y6, y7, y8, y9⟩ := ((unhide Z2).alloc _).mv n3 (by omega)
      obtain ⟨d0, d1, d2⟩ := DB
      have d1' := n3.kc d0 (by omega) d1
      have d2' := n3.kc d0 (by omega) d2
      have z3 : w2.heap.size + 1 ≤ w3.heap.size := by have := n3.size; simpa using this
      have hne : w2.heap.size ≠ b := by omega
      have hne' : ¬ b = w2.heap.size := by omega
      clear d0 d1 d2 Z2 n3
      have R3' := hide R3
      obtain ⟨q1, q2, q3, q4, q5, q6, q7, q8, -⟩ := R3
      go_wp2_with fail
      refine bodyPost_ret (v := .agg #[.int .i64 3, .bool false, .int .i64 dm, .int .i64 ds, .string ⟨#[]⟩, .bool false, .bool false, .slice none 0 0]) (by simp [results, Tryd.results62, go_sem, y0, y1, y2, y3, y4, y5, y6, y7, y8]) rfl ?_
      rw [unhide HR]
      have hP := (unhide R3').put (k' := k + 1) (by omega)
      rw [show (((k + 1 : Nat)) : Int) = (k : Int) + 1 by omega] at hP
      exact ⟨by (repeat (first | with_reducible assumption | with_reducible exact Mv.refl _ _ | with_reducible refine Mv.alloc ?_ _ | (with_reducible refine Mv.own ?_ ?_ _; rotate_left; (focus (first | omega | (simp; done) | (simp; omega) | (dsimp only; omega)))) | with_reducible refine Mv.put ?_ _ _ | with_reducible refine Mv.drewN ?_ _ | with_reducible refine Mv.drew ?_)), hde', k + 1, by omega, by (repeat (first | with_reducible assumption | with_reducible refine Qd.alloc ?_ _ | (with_reducible refine Qd.own ?_ R0 ?_ _; rotate_left; (focus (first | omega | (simp; done) | (simp; omega) | (dsimp only; omega)))) | with_reducible refine Qd.drewN ?_ _ | with_reducible refine Qd.drew ?_)), _, rfl, in_leaf _ _ _ _ _ _ _⟩

set_option maxHeartbeats 8000000 in
set_option maxRecDepth 10000 in
theorem qatom_name (d : Nat) (e1 : Nat → RX) (hp : QPartOf b a cap ts en 24 (d + 1) e1) (hts : GoodTs ts) (h9 : ts.length ≤ 900) (hd : d ≤ 8) (w : World) (k : Nat) (R0 : Qd b a cap ts en w k 0 0) (hk : k < ts.length) (tt : List UInt8) (tp : Nat) (hTK : ts[k] = (1, tt, tp)) (hl : tt.length ≤ 1000) (hw : wordB tt = false) :
    Calls Tryd.prog 62 #[.pointer (some ⟨b, 0, none⟩), .int .i64 (d : Int)] w fun e w' => QPost b a cap ts en (namedP ts e1 tt (k + 1)) k w e w' := by
  have hlt := R0.lt
  have hn := hts.1
  have HT := hide hts
  have HP := hide hp
  clear hts hp
  have HR := hide (namedP.eq_1 ts e1 tt (k + 1))
  generalize namedP ts e1 tt (k + 1) = RES at *
  have WD := hide (fun w => rword_any tt w hl)
  rw [hw] at WD
  clear hw
  obtain ⟨g, rfl, hgb, h0, h1, h2, h3⟩ := R0.row k hk
  have hkl : ¬ (ts.length : Int) ≤ (k : Int) := by omega
  have ez := ZB.new w 28
  have RA := R0.alloc (zO 28)
  obtain ⟨ra, rb, hc0, hc1, hc2, hc3, hc4, hfr, -⟩ := RA
  obtain ⟨ta, tb, tc, td⟩ := (show Tok3 w g (k * 3) ts[k] from ⟨h0, h1, h2, h3⟩).below (below1 w (zO 28))
  rw [hTK] at tb tc td
  dsimp only at tb tc td
  have RH := hide R0
  have b0 := below1 w (zO 28)
  clear h0 h1 h2 h3
  go_enter Tryd.func62, Tryd.ntmps62
  go_wp2_with fail
  go_quiet (fail)
  go_wp2_with fail
  have BV : Below w.heap.size w ((w.alloc (zO 28)).drewN nq) := below_dN b0 nq
  have zV : w.heap.size + 1 ≤ ((w.alloc (zO 28)).drewN nq).heap.size := by show _ ≤ (w.alloc (zO 28)).heap.size; simp
  have lV : b < ((w.alloc (zO 28)).drewN nq).heap.size := ra
  have gV : g < ((w.alloc (zO 28)).drewN nq).heap.size := ta
  have u0 : ((w.alloc (zO 28)).drewN nq).cell? ⟨b, 0, none⟩ = _ := hc0
  have u1 : ((w.alloc (zO 28)).drewN nq).cell? ⟨b, 1, none⟩ = _ := hc1
  have v1 : ((w.alloc (zO 28)).drewN nq).cell? ⟨g, k * 3, none⟩ = _ := tb
  have v2 : ((w.alloc (zO 28)).drewN nq).cell? ⟨g, k * 3 + 1, none⟩ = _ := tc
  have v3 : ((w.alloc (zO 28)).drewN nq).cell? ⟨g, k * 3 + 2, none⟩ = _ := td
  have fV : ∀ o, ((w.alloc (zO 28)).drewN nq).frozen? ⟨b, o, none⟩ = false := hfr
  have ZV := hide (ez.below (below_dN (Below.refl _ _) nq))
  have RV := hide ((R0.alloc (zO 28)).drewN nq)
  generalize (w.alloc (zO 28)).drewN nq = V at *
  clear hc0 hc1 hc2 hc3 hc4 hfr ra rb ta tb tc td ez b0
  go_region
  all_goals
    go_wp2_with fail
    refine (unhide WD _).mono ?_
    rintro e w2 ⟨rfl, b2⟩
    have MV := Mv.of_below (b := b) BV
    have M2 := (MV.alloc _).drew.below b2
    have R2 := ((unhide RV).alloc _).drew.below b2
    have Z2 := hide ((((unhide ZV).alloc _).below (Below.refl _ _).drew).below b2)
    have z2 : V.heap.size + 1 ≤ w2.heap.size := by have := b2.size; simpa using this
    have t1 : w2.cell? ⟨V.heap.size, 1, none⟩ = some (.string ⟨tt.toArray⟩) := ((bcell b2).1 _ _ (by simp)).trans (by go_simp)
    clear b2 u0 u1 v1 v2 v3 fV ZV RV MV
    have R2' := hide R2
    obtain ⟨q1, q2, q3, q4, q5, q6, q7, q8, -⟩ := R2
    go_wp2_with fail
    have hP := (unhide R2').put (k' := k + 1) (by omega)
    rw [show (((k + 1 : Nat)) : Int) = (k : Int) + 1 by omega] at hP
    have zP : (w2.setCell ⟨b, 1, none⟩ (.int .i64 ((k : Int) + 1))).heap.size = w2.heap.size := by simp [World.setCell]
    refine (tak_any _ (k + 1) _ [[40]] _ (hP.alloc _) (unhide HT) (Marks.at (by simp [World.setCell]) (by simp [World.setCell]; omega) (by decide) (by decide))).mono ?_
    have m2 := (Mv.refl b w2).put 1 (.int .i64 ((k : Int) + 1))
    rw [fnd_one]
    cases hF : mkB ts (k + 1) [40] with
    | false =>
      rw [if_neg (by decide)]
      rw [hF, if_neg (by decide)] at HR
      clear hF
      rintro e w3 ⟨n3, rfl, R3⟩
      have m3 := (m2.alloc _).trans n3
      have M3 := M2.trans m3
      obtain ⟨y0, y1, y2, y3, y4, y5, y6, y7, y8, y9⟩ := (unhide Z2).mv m3 (by omega)
      have t3 := m3.kc (by omega) (by omega) t1
      clear n3 m3 Z2 t1 q1 q2 q3 q4 q5 q6 q7 q8
      go_wp2_with fail
      refine bodyPost_ret (v := .agg #[.int .i64 5, .bool false, .int .i64 0, .int .i64 0, .string ⟨tt.toArray⟩, .bool false, .bool false, .slice none 0 0]) (by simp [results, Tryd.results62, go_sem, y0, y1, y2, y3, y4, y5, y6, y7, y8]) rfl ?_
      rw [unhide HR]
      exact ⟨by (repeat (first | with_reducible assumption | with_reducible exact Mv.refl _ _ | with_reducible refine Mv.alloc ?_ _ | (with_reducible refine Mv.own ?_ ?_ _; rotate_left; (focus (first | omega | (simp; done) | (simp; omega) | (dsimp only; omega)))) | with_reducible refine Mv.put ?_ _ _ | with_reducible refine Mv.drewN ?_ _ | with_reducible refine Mv.drew ?_)), by omega, by (repeat (first | with_reducible assumption | with_reducible refine Qd.alloc ?_ _ | (with_reducible refine Qd.own ?_ R0 ?_ _; rotate_left; (focus (first | omega | (simp; done) | (simp; omega) | (dsimp only; omega)))) | with_reducible refine Qd.drewN ?_ _ | with_reducible refine Qd.drew ?_)), _, rfl, in_leaf _ _ _ _ _ _ _, leaf_bare _ _ _ _ _ _ _⟩
    | true =>
      rw [if_pos rfl]
      rw [hF, if_pos rfl] at HR
      clear hF
      rintro e w3 ⟨n3, rfl, R3⟩
      have m3 := (m2.alloc _).trans n3
      have M3 := M2.trans m3
      have Z3 := hide ((unhide Z2).mv m3 (by omega))
      have t3 := m3.kc (by omega) (by omega) t1
      have z3 := m3.size
      clear n3 m3 Z2 t1 q1 q2 q3 q4 q5 q6 q7 q8
      have HE := hide (show RES = resOf (rowS (restP ts e1 [41] (k + 2))) (callX tt (rowX (restP ts e1 [41] (k + 2)))) by
        rw [unhide HR]
        cases restP ts e1 [41] (k + 1 + 1) <;> rfl)
      clear HR
      have RW := hide (qrow_any d e1 (unhide HP) (unhide HT) h9 (by omega) [41] rfl rfl (by decide) w3.drew (k + 2) R3.drew)
      generalize restP ts e1 [41] (k + 2) = RL0 at *
      go_wp2_with fail
      go_region_with ((go_at_call 70; refine (unhide RW).mono ?_; rintro e w4 ⟨n4', S4, Ts, v, rfl, HK, hTl, hbr⟩; have n4 : Mv b w3 w4 := ⟨n4'.os, n4'.tape, n4'.output, n4'.size, n4'.block⟩; have M4 := M3.trans n4; have Z4 := hide ((unhide Z3).mv n4 (by omega)); have t4 := n4.kc (by omega) (by omega) t3; have z4 := n4.size; have S4' := hide S4; have HK4 := hide HK; obtain ⟨ka, kc, rfl⟩ := HK.form; clear HK S4 n4 n4'; obtain ⟨y0, y1, y2, y3, y4, y5, y6, y7, y8, y9⟩ := unhide Z4))
      all_goals
        go_wp2_with fail
        refine bodyPost_ret (v := .agg #[.int .i64 10, .bool false, .int .i64 0, .int .i64 0, .string ⟨tt.toArray⟩, .bool false, .bool false, .slice ka Ts.length kc]) (by simp [results, Tryd.results62, go_sem, y0, y1, y2, y3, y4, y5, y6, y7, y8]) rfl ?_
        rw [unhide HE]
        obtain ⟨-, HN⟩ := (unhide HK4).node hTl rfl 10 false 0 0 ⟨tt.toArray⟩ false false
        have S5 := (unhide S4').le (k0 := k) (by omega)
        refine QS.post (T := .mk 10 false 0 0 ⟨tt.toArray⟩ false false ka Ts.length kc (fun i => Ts.getD i .none)) (by (repeat (first | with_reducible assumption | with_reducible exact Mv.refl _ _ | with_reducible refine Mv.alloc ?_ _ | (with_reducible refine Mv.own ?_ ?_ _; rotate_left; (focus (first | omega | (simp; done) | (simp; omega) | (dsimp only; omega)))) | with_reducible refine Mv.put ?_ _ _ | with_reducible refine Mv.drewN ?_ _ | with_reducible refine Mv.drew ?_))) (S5.own8 R0 (Nat.le_refl _) _ _ _ _ _ _ _ _) ?_ ?_
        · have HN2 := HN.weak (Q' := fun g => w.heap.size < g) (fun g _ hg => by unfold Fr at hg; simp at hg; omega)
          refine XT.In.weak (Q := fun g => w.heap.size < g) ?_ (fun g _ hg => by unfold Fr; omega)
          (repeat (first | with_reducible assumption | with_reducible refine XT.In.alloc ?_ _ | with_reducible refine XT.In.drew ?_ | with_reducible refine XT.In.drewN ?_ _ | (with_reducible refine XT.In.set ?_ ?_ _; rotate_left; (intro g hg; (focus (first | omega | (simp; done) | (simp; omega) | (dsimp only; omega)))))))
        · intro ho
          rw [XT.bare_mk, hbr ho]
          rfl

set_option maxHeartbeats 4000000 in
set_option maxRecDepth 10000 in
theorem qatom_end (d : Nat) (hts : GoodTs ts) (w : World) (k : Nat) (R0 : Qd b a cap ts en w k 0 0) (hk : ts.length ≤ k) :
    Calls Tryd.prog 62 #[.pointer (some ⟨b, 0, none⟩), .int .i64 (d : Int)] w fun e w' => QPost b a cap ts en (.er 2 k) k w e w' := by
  have hlt := R0.lt
  have hkl : (ts.length : Int) ≤ (k : Int) := by omega
  have HT := hide hts
  have RA := R0.alloc (zO 28)
  have RA' := hide RA
  have ez := ZB.new w 28
  obtain ⟨ra, rb, hc0, hc1, hc2, hc3, hc4, hfr, -⟩ := RA
  have hn := hts.1
  clear hts
  go_enter Tryd.func62, Tryd.ntmps62
  go_wp2_with fail
  go_quiet (fail)
  go_wp2_with fail
  refine (fail_new _ k 2 ((unhide RA').drewN nq) (unhide HT)).mono ?_
  rintro e w3 ⟨⟨v, rfl⟩, R3, n3⟩
  have M3 := (((Mv.refl b w).alloc _).drewN nq).trans n3
  obtain ⟨y0, y1, y2, y3, y4, y5, y6, y7, y8, y9⟩ := (ez.below (below_dN (Below.refl _ _) nq)).mv n3 (by omega)
  clear ra rb hc0 hc1 hc2 hc3 hc4 hfr n3 ez
  go_wp2_with fail
  refine bodyPost_ret (v := .agg #[.int .i64 0, .bool false, .int .i64 0, .int .i64 0, .string ⟨#[]⟩, .bool false, .bool false, .slice none 0 0]) (by simp [results, Tryd.results62, go_sem, y0, y1, y2, y3, y4, y5, y6, y7, y8]) rfl ?_
  exact qpost_er (B := w.heap.size + 1) (k' := k) (k2 := k) M3 rfl (Nat.le_refl _) R3 R0 (Nat.le_refl _) (by omega) (zX_in _ _) _ _ _ _ _ _ _ _
end Go.Proofs.YtdlfgnmcokdceabDoor

/- The document's atom where no number, text or name stands. (Printed by mkqsign.py.) -/
namespace Go.Proofs.YtdlfgnmcokdceabDoor
open Go.RowKit
set_option linter.unusedVariables false
set_option linter.unusedSimpArgs false
variable {b : Nat} {a : Option Addr} {cap : Nat} {ts : List Tk} {en : Int}

theorem mkB_uniq {k : Nat} {m m' : Mk} (h : mkB ts k m = true) (h' : mkB ts k m' = true) : m = m' := by
  rw [mkB_tok] at h h'
  simp only [Bool.and_eq_true, beq_iff_eq] at h h'
  exact h.2.symm.trans h'.2
def six : List Mk := [mTrue, mFalse, mNull, [40], [91], mIf]
theorem fnd_mk {k : Nat} {l : List Mk} {m : Mk} (h : fnd ts k l = some m) : mkB ts k m = true := by
  induction l with
  | nil => cases h
  | cons x l ih =>
    rw [fnd] at h
    split at h
    · cases h; assumption
    · exact ih h
theorem fnd_none {k : Nat} {l : List Mk} (h : fnd ts k l = none) : ∀ m ∈ l, mkB ts k m = false := by
  induction l with
  | nil => intro m hm; exact absurd hm List.not_mem_nil
  | cons x l ih =>
    rw [fnd] at h
    split at h
    · cases h
    · rename_i hx
      intro m hm
      rcases List.mem_cons.1 hm with rfl | hm
      · simpa using hx
      · exact ih h m hm
theorem mk_other {k : Nat} {m m' : Mk} (h : mkB ts k m = true) (hn : m ≠ m') : mkB ts k m' = false := by
  cases h' : mkB ts k m' with
  | false => rfl
  | true => exact absurd (mkB_uniq h h') hn
theorem sign_list {e1 : Nat → RX} {k : Nat} (h : mkB ts k [91] = true) : signP ts e1 k = listedP ts e1 (k + 1) := by unfold signP; rw [if_pos h]
theorem sign_brack {e1 : Nat → RX} {k : Nat} (h : mkB ts k [40] = true) : signP ts e1 k = brackP ts e1 (k + 1) := by
  unfold signP; rw [mk_other h (by decide : ([40] : Mk) ≠ [91]), if_neg (by decide), if_pos h]
theorem sign_if {e1 : Nat → RX} {k : Nat} (h : mkB ts k mIf = true) : signP ts e1 k = choiceP ts e1 k := by
  unfold signP; rw [mk_other h (by decide : mIf ≠ [91]), if_neg (by decide), mk_other h (by decide : mIf ≠ [40]), if_neg (by decide), if_pos h]
theorem sign_null {e1 : Nat → RX} {k : Nat} (h : mkB ts k mNull = true) : signP ts e1 k = .ok nullX (k + 1) := by
  unfold signP constP; rw [mk_other h (by decide : mNull ≠ [91]), if_neg (by decide), mk_other h (by decide : mNull ≠ [40]), if_neg (by decide), mk_other h (by decide : mNull ≠ mIf), if_neg (by decide), if_pos h]
theorem sign_true {e1 : Nat → RX} {k : Nat} (h : mkB ts k mTrue = true) : signP ts e1 k = .ok (boolX true) (k + 1) := by
  unfold signP constP; rw [mk_other h (by decide : mTrue ≠ [91]), if_neg (by decide), mk_other h (by decide : mTrue ≠ [40]), if_neg (by decide), mk_other h (by decide : mTrue ≠ mIf), if_neg (by decide), mk_other h (by decide : mTrue ≠ mNull), if_neg (by decide), if_pos h]
theorem sign_false {e1 : Nat → RX} {k : Nat} (h : mkB ts k mFalse = true) : signP ts e1 k = .ok (boolX false) (k + 1) := by
  unfold signP constP; rw [mk_other h (by decide : mFalse ≠ [91]), if_neg (by decide), mk_other h (by decide : mFalse ≠ [40]), if_neg (by decide), mk_other h (by decide : mFalse ≠ mIf), if_neg (by decide), mk_other h (by decide : mFalse ≠ mNull), if_neg (by decide), mk_other h (by decide : mFalse ≠ mTrue), if_neg (by decide), if_pos h]
theorem sign_no {e1 : Nat → RX} {k : Nat} (h : fnd ts k six = none) : signP ts e1 k = .er 2 k := by
  have a := fnd_none h
  unfold signP constP
  rw [a [91] (by decide), a [40] (by decide), a mIf (by decide), a mNull (by decide), a mTrue (by decide), a mFalse (by decide)]
  rfl
theorem brack_s (e1 : Nat → RX) (k : Nat) : brackP ts e1 k = resOf (mustS ts [[41]] (exprS e1 (.inl k))) (exprX e1 (.inl k)) := by
  unfold brackP
  cases h : e1 k with
  | er c k' => simp [mustS, exprS, resOf, h]
  | ok x k' =>
    cases h2 : mkB ts k' [41] with
    | true => simp [mustS, exprS, exprX, resOf, h, fnd, h2]
    | false => simp [mustS, exprS, exprX, resOf, h, fnd, h2]
theorem listed_s (e1 : Nat → RX) (k : Nat) : listedP ts e1 k = resOf (rowS (restP ts e1 [93] k)) (listX (rowX (restP ts e1 [93] k))) := by
  unfold listedP
  cases restP ts e1 [93] k <;> rfl
theorem choice_s (e1 : Nat → RX) (k : Nat) (h : mkB ts k mIf = true) : choiceP ts e1 k = resOf (exprS e1 (mustS ts [mElse] (exprS e1 (mustS ts [mThen] (exprS e1 (.inl (k + 1)))))))
    (ifX (exprX e1 (.inl (k + 1))) (exprX e1 (mustS ts [mThen] (exprS e1 (.inl (k + 1))))) (exprX e1 (mustS ts [mElse] (exprS e1 (mustS ts [mThen] (exprS e1 (.inl (k + 1)))))))) := by
  unfold choiceP behP
  rw [fnd_one, if_pos h]
  cases h1 : e1 (k + 1) with
  | er c k1 => simp [mustS, exprS, resOf, h1]
  | ok x k1 =>
    cases h2 : fnd ts k1 [mThen] with
    | none => simp [mustS, exprS, resOf, h1, h2]
    | some m2 =>
      cases h3 : e1 (k1 + 1) with
      | er c k2 => simp [mustS, exprS, resOf, h1, h2, h3]
      | ok y k2 =>
        cases h4 : fnd ts k2 [mElse] with
        | none => simp [mustS, exprS, resOf, h1, h2, h3, h4]
        | some m4 =>
          cases h5 : e1 (k2 + 1) with
          | er c k3 => simp [mustS, exprS, resOf, h1, h2, h3, h4, h5]
          | ok z k3 => simp [mustS, exprS, exprX, resOf, h1, h2, h3, h4, h5]
end Go.Proofs.YtdlfgnmcokdceabDoor

/- QAll SKnown: laid together. -/
import Derived.Test.YtejnmkhdnhggcaaDoorSAN
import Derived.Test.YtejnmkhdnhggcaaDoorSAO
import Derived.Test.YtejnmkhdnhggcaaDoorSAF
/- The document's reader as a whole; the contracts of its Take and Parse. -/
namespace Go.Proofs.YtejnmkhdnhggcaaDoor
open Go.RowKit
set_option linter.unusedVariables false
set_option linter.unusedSimpArgs false
variable {b : Nat} {a : Option Addr} {cap : Nat} {ts : List Tk} {en : Int}

theorem qatom_any (d : Nat) (e1 : Nat → RX) (hp : QPartOf b a cap ts en 37 (d + 1) e1) (hts : GoodTs ts) (h9 : ts.length ≤ 900) (hd : d ≤ 8) : QPartOf b a cap ts en 87 d (atomP ts e1) := by
  intro w k R
  by_cases hk : k < ts.length
  · have hg := hts.2 k hk
    have hA := tokAt_in hk
    obtain ⟨tk, tt, tp, hTK⟩ : ∃ tk tt tp, ts[k] = (tk, tt, tp) := ⟨_, _, _, rfl⟩
    rw [hTK] at hA hg
    obtain ⟨g1, g2, g3⟩ := hg
    dsimp only at g1 g2 g3
    by_cases h2 : tk = 2
    · subst h2
      rw [atom_num hk (by rw [hA]), hA]
      exact qatom_num d e1 hp hts h9 hd w k R hk tt tp hTK g1
    by_cases h3 : tk = 3
    · subst h3
      rw [atom_text hk (by rw [hA]), hA]
      exact qatom_text d e1 hp hts h9 hd w k R hk tt tp hTK g1
    have e2 : ((tk : Int) == 2) = false := by rw [beq_eq_false_iff_ne]; omega
    have e3 : ((tk : Int) == 3) = false := by rw [beq_eq_false_iff_ne]; omega
    by_cases h1 : tk = 1
    · subst h1
      cases hw : wordB tt with
      | false =>
        rw [atom_name hk (by rw [hA]) (by rw [hA]; exact hw), hA]
        exact qatom_name d e1 hp hts h9 hd w k R hk tt tp hTK g1 hw
      | true =>
        rw [atom_sign (by rw [hA]; simp) (by rw [hA]; simp) (by rw [hA]; exact fun _ => hw)]
        cases hF : fnd ts k six with
        | none => exact qsign_word_none d e1 hp hts h9 hd w k R hk tt tp hTK g1 hw hF
        | some m =>
          have hm := (fnd_lt hF).2
          simp only [six, List.mem_cons, List.not_mem_nil, or_false] at hm
          rcases hm with rfl | rfl | rfl | rfl | rfl | rfl
          · exact qsign_word_true d e1 hp hts h9 hd w k R hk tt tp hTK g1 hw hF
          · exact qsign_word_false d e1 hp hts h9 hd w k R hk tt tp hTK g1 hw hF
          · exact qsign_word_null d e1 hp hts h9 hd w k R hk tt tp hTK g1 hw hF
          · exact qsign_word_brack d e1 hp hts h9 hd w k R hk tt tp hTK g1 hw hF
          · exact qsign_word_list d e1 hp hts h9 hd w k R hk tt tp hTK g1 hw hF
          · exact qsign_word_if d e1 hp hts h9 hd w k R hk tt tp hTK g1 hw hF
    · have e1' : ((tk : Int) == 1) = false := by rw [beq_eq_false_iff_ne]; omega
      rw [atom_sign (by rw [hA]; exact h2) (by rw [hA]; exact h3) (by rw [hA]; exact fun h => absurd h h1)]
      cases hF : fnd ts k six with
      | none => exact qsign_tok_none d e1 hp hts h9 hd w k R hk tk tt tp hTK g1 e2 e3 e1' hF
      | some m =>
        have hm := (fnd_lt hF).2
        simp only [six, List.mem_cons, List.not_mem_nil, or_false] at hm
        rcases hm with rfl | rfl | rfl | rfl | rfl | rfl
        · exact qsign_tok_true d e1 hp hts h9 hd w k R hk tk tt tp hTK g1 e2 e3 e1' hF
        · exact qsign_tok_false d e1 hp hts h9 hd w k R hk tk tt tp hTK g1 e2 e3 e1' hF
        · exact qsign_tok_null d e1 hp hts h9 hd w k R hk tk tt tp hTK g1 e2 e3 e1' hF
        · exact qsign_tok_brack d e1 hp hts h9 hd w k R hk tk tt tp hTK g1 e2 e3 e1' hF
        · exact qsign_tok_list d e1 hp hts h9 hd w k R hk tk tt tp hTK g1 e2 e3 e1' hF
        · exact qsign_tok_if d e1 hp hts h9 hd w k R hk tk tt tp hTK g1 e2 e3 e1' hF
  · rw [atom_sign (by rw [tokAt_end (by omega)]; decide) (by rw [tokAt_end (by omega)]; decide) (by rw [tokAt_end (by omega)]; decide), sign_end (by omega)]
    exact qatom_end d hts w k R (by omega)
theorem qreader_all (hts : GoodTs ts) (h9 : ts.length ≤ 900) : ∀ f d, d + f = 9 → QPartOf b a cap ts en 84 d (UE ts f).1 ∧ QPartOf b a cap ts en 37 d (UE ts f).2 := by
  intro f
  induction f with
  | zero => intro d h; exact ⟨qunary_deep d hts (by omega), qexpr_deep d hts (by omega)⟩
  | succ f ih =>
    intro d h
    obtain ⟨hu, he⟩ := ih (d + 1) (by omega)
    have hu' := qunary_any d _ _ hu (qatom_any d _ he hts h9 (by omega)) hts (by omega)
    exact ⟨hu', qexpr_any d _ (qand_any d _ (qcmp_any d _ _ (qadd_any d _ (qmul_any d _ hu' hts) hts) he hts (by omega)) hts) hts (by omega)⟩
theorem Qd.new {w : World} {k : Nat} (h : Row w a ts) (hk : k ≤ ts.length) : Qd w.heap.size a cap ts en (w.alloc (.cells #[.slice a ts.length cap, .int .i64 (k : Int), .int .i64 en, .int .i64 0, .int .i64 0] 75)) k 0 0 := by
  refine ⟨by simp, hk, by go_simp, by go_simp, by go_simp, by go_simp, by go_simp, fun o => by go_simp, fun i hi => ?_⟩
  obtain ⟨g, h1, h2⟩ := h i hi
  exact ⟨g, h1, by have := h2.1; omega, h2.below (below1 _ _)⟩

set_option maxHeartbeats 4000000 in
theorem qtake_any (hts : GoodTs ts) (h9 : ts.length ≤ 900) (w : World) (k : Nat) (en : Int) (hr : Row w a ts) (hk : k ≤ ts.length) :
    Calls Tryd.prog 25 #[.slice a ts.length cap, .int .i64 (k : Int), .int .i64 en] w fun e w' => TakeRes w.heap.size (takeT ts k en) e w' ∧ (∀ c k', (UE ts 9).2 k = .er c k' → (c != 0) = true) ∧ Below w.heap.size w w' := by
  have hn := hts.1
  have HT := hide hts
  have HRow := hide hr
  have HR := hide (takeT.eq_1 ts k en)
  generalize takeT ts k en = RES at *
  clear hts hr
  have z0 := hide (ZB.new w 26)
  go_enter Tryd.func25, Tryd.ntmps25
  go_wp2_with fail
  have RN := Qd.new (cap := cap) (en := en) ((unhide HRow).below (below1 w (zO 26))) hk
  have eB : (w.alloc (zO 26)).heap.size = w.heap.size + 1 := by simp
  rw [eB] at RN
  refine ((qreader_all (unhide HT) h9 9 0 rfl).2 _ k RN).mono ?_
  have M0 := below2 w (zO 26) (.cells #[.slice a ts.length cap, .int .i64 (k : Int), .int .i64 en, .int .i64 0, .int .i64 0] 75)
  cases hE : (UE ts 9).2 k with
  | er c1 k1 =>
    rw [hE] at HR
    have HE0 := hide hE
    clear hE
    rintro e w1 ⟨n1, hc1, k2, hk2, R1, T, rfl, hin⟩
    have Z1 := ((unhide z0).alloc _).mv n1 (by omega)
    have z1 : w.heap.size + 2 ≤ w1.heap.size := by have := n1.size; simpa using this
    have b1 := n1.toBelow M0 (by omega)
    clear n1 z0
    obtain ⟨ek, eb, em, es, et, elo, ehi, ea, el, ec, ekid, rfl⟩ := hin.form
    clear hin
    have HR2 := hide (show RES = (zX, (k : Int), posT ts k1 en, c1) from unhide HR)
    clear HR
    generalize posT ts k1 en = pp at *
    obtain ⟨r1, r2, r3, r4, r5, r6, r7, r8, -⟩ := R1
    obtain ⟨y0, y1, y2, y3, y4, y5, y6, y7, y8, y9⟩ := Z1
    dsimp only [XT.val]
    go_wp2_with fail
    go_region
    go_wp2_with fail
    refine bodyPost_ret (v := .tuple #[.agg #[.int .i64 0, .bool false, .int .i64 0, .int .i64 0, .string ⟨#[]⟩, .bool false, .bool false, .slice none 0 0], .int .i64 (k : Int), .int .i64 pp, .int .i64 c1]) (by simp [results, Tryd.results25, go_sem, y0, y1, y2, y3, y4, y5, y6, y7, y8]) rfl ?_
    rw [unhide HR2]
    exact ⟨⟨zX, rfl, zX_in _ _, zX_bare⟩, fun c k' h => by rw [unhide HE0] at h; cases h; exact hc1, by (repeat (first | with_reducible assumption | with_reducible exact Below.refl _ _ | (with_reducible refine Below.setCell ?_ ?_ _; rotate_left; (focus (first | omega | (simp; done) | (simp; omega) | (dsimp only; omega)))) | (with_reducible refine Below.alloc ?_ ?_ _; rotate_left; (focus (first | omega | (simp; done) | (simp; omega) | (dsimp only; omega)))) | with_reducible refine Below.drew ?_ | with_reducible refine below_dN ?_ _))⟩
  | ok x1 k1 =>
    rw [hE] at HR
    have HE0 := hide hE
    clear hE
    rintro e w1 ⟨n1, hk1, R1, T, rfl, hin, hbr⟩
    have Z1 := ((unhide z0).alloc _).mv n1 (by omega)
    have z1 : w.heap.size + 2 ≤ w1.heap.size := by have := n1.size; simpa using this
    have b1 := n1.toBelow M0 (by omega)
    have HI := hin.weak (Q' := fun g => w.heap.size + 1 ≤ g) (fun g _ hg => by unfold Fr at hg; simp at hg; omega)
    clear n1 z0
    have HR2 := hide (show RES = (x1, (k1 : Int), 0, 0) from unhide HR)
    clear HR
    obtain ⟨ek, eb, em, es, et, elo, ehi, ea, el, ec, ekid, rfl⟩ := hin.form
    clear hin
    obtain ⟨r1, r2, r3, r4, r5, r6, r7, r8, -⟩ := R1
    obtain ⟨y0, y1, y2, y3, y4, y5, y6, y7, y8, y9⟩ := Z1
    dsimp only [XT.val]
    go_wp2_with fail
    go_region
    go_wp2_with fail
    refine bodyPost_ret (v := .tuple #[.agg #[.int .i64 ek, .bool eb, .int .i64 em, .int .i64 es, .string et, .bool elo, .bool ehi, .slice ea el ec], .int .i64 (k1 : Int), .int .i64 0, .int .i64 0]) (by simp [results, Tryd.results25, go_sem, y0, y1, y2, y3, y4, y5, y6, y7, y8]) rfl ?_
    rw [unhide HR2]
    refine ⟨⟨_, rfl, ?_, hbr⟩, (fun c k' h => by rw [unhide HE0] at h; cases h), by (repeat (first | with_reducible assumption | with_reducible exact Below.refl _ _ | (with_reducible refine Below.setCell ?_ ?_ _; rotate_left; (focus (first | omega | (simp; done) | (simp; omega) | (dsimp only; omega)))) | (with_reducible refine Below.alloc ?_ ?_ _; rotate_left; (focus (first | omega | (simp; done) | (simp; omega) | (dsimp only; omega)))) | with_reducible refine Below.drew ?_ | with_reducible refine below_dN ?_ _))⟩
    refine XT.In.weak (Q := fun g => w.heap.size + 1 ≤ g) ?_ (fun g _ hg => by unfold Fr; omega)
    (repeat (first | with_reducible assumption | with_reducible refine XT.In.alloc ?_ _ | with_reducible refine XT.In.drew ?_ | with_reducible refine XT.In.drewN ?_ _ | (with_reducible refine XT.In.set ?_ ?_ _; rotate_left; (intro g hg; (focus (first | omega | (simp; done) | (simp; omega) | (dsimp only; omega)))))))

set_option maxHeartbeats 4000000 in
theorem qparse_any (l : List UInt8) (hl : l.length ≤ 1000) (w : World) :
    Calls Tryd.prog 14 #[.string ⟨l.toArray⟩] w fun e w' => ParseRes w.heap.size (parseT l) e w' ∧ Below w.heap.size w w' := by
  have L := hide (rlex_all l (w.alloc (zO 26)) hl)
  have HG := hide (good_lex l hl)
  have h60 := lexT_len l
  have HR := hide (parseT.eq_1 l)
  generalize parseT l = RES at *
  generalize lexT l = LX at *
  obtain ⟨ts, n, e0⟩ := LX
  have z0 := hide (ZB.new w 26)
  go_enter Tryd.func14, Tryd.ntmps14
  go_wp2_with fail
  refine (unhide L).mono ?_
  rintro e w1 ⟨⟨v, rfl, own⟩, b1⟩
  have Z1 := hide ((unhide z0).below b1)
  have z1 : w.heap.size + 1 ≤ w1.heap.size := by have := b1.size; simpa using this
  have B1 := bstep (below1 w _) b1
  clear b1 z0 L
  obtain ⟨a, cap, rfl, row, hrg⟩ := row_of own
  clear own
  dsimp only at HR HG row hrg
  have HRG := hide hrg
  clear hrg
  have hn := (unhide HG).1
  by_cases he0 : e0 = 0
  · subst he0
    have HR2 := hide (show RES = match (UE ts 9).2 0 with | .er c k' => (zX, posT ts k' n, c) | .ok x k' => if k' < ts.length then (zX, posT ts k' n, 2) else (x, (n : Int), 0) from unhide HR)
    clear HR
    have HRow := hide row
    have TK := hide (qtake_any (cap := cap) (unhide HG) (by have := h60; first | omega | (simp at this; omega)) w1 0 (n : Int) row (Nat.zero_le _))
    have TE := takeT.eq_1 ts 0 (n : Int)
    clear row
    go_wp2_with fail
    refine (unhide TK).mono ?_
    rintro e w2 ⟨⟨T, rfl, hin, hbr⟩, hce, b2⟩
    have Z2 := (unhide Z1).below b2
    have B2 := bstep B1 b2
    have z2 := b2.size
    have HI := hin.weak (Q' := fun g => w.heap.size + 1 ≤ g) (fun g _ hg => by unfold Fr at hg; omega)
    have row2 := (unhide HRow).below b2
    clear b2 Z1 TK HRow
    cases hE : (UE ts 9).2 0 with
    | er c3 k3 =>
      have hc3 := hce c3 k3 hE
      rw [hE] at HR2 TE
      clear hE hce
      rw [TE] at hbr ⊢
      dsimp only at hbr ⊢
      clear TE
      have HR3 := hide (show RES = (zX, posT ts k3 n, c3) from unhide HR2)
      clear HR2
      obtain ⟨ek, eb, em, es, et, elo, ehi, ea, el, ec, ekid, rfl⟩ := hin.form
      clear hin
      obtain ⟨y0, y1, y2, y3, y4, y5, y6, y7, y8, y9⟩ := Z2
      generalize posT ts k3 n = pp at *
      dsimp only [XT.val]
      go_wp2_with fail
      refine bodyPost_ret (v := .tuple #[.agg #[.int .i64 0, .bool false, .int .i64 0, .int .i64 0, .string ⟨#[]⟩, .bool false, .bool false, .slice none 0 0], .int .i64 pp, .int .i64 c3]) (by simp [results, Tryd.results14, go_sem, y0, y1, y2, y3, y4, y5, y6, y7, y8]) rfl ?_
      rw [unhide HR3]
      exact ⟨⟨zX, rfl, zX_in _ _, zX_bare⟩, by (repeat (first | with_reducible assumption | with_reducible exact Below.refl _ _ | (with_reducible refine Below.setCell ?_ ?_ _; rotate_left; (focus (first | omega | (simp; done) | (simp; omega) | (dsimp only; omega)))) | (with_reducible refine Below.alloc ?_ ?_ _; rotate_left; (focus (first | omega | (simp; done) | (simp; omega) | (dsimp only; omega)))) | with_reducible refine Below.drew ?_ | with_reducible refine below_dN ?_ _))⟩
    | ok x3 k3 =>
      rw [hE] at HR2 TE
      clear hE
      rw [TE] at hbr ⊢
      dsimp only at hbr ⊢
      clear TE
      have HR3 := hide (show RES = if k3 < ts.length then (zX, posT ts k3 n, 2) else (x3, (n : Int), 0) from unhide HR2)
      clear HR2
      obtain ⟨ek, eb, em, es, et, elo, ehi, ea, el, ec, ekid, rfl⟩ := hin.form
      clear hin
      obtain ⟨y0, y1, y2, y3, y4, y5, y6, y7, y8, y9⟩ := Z2
      dsimp only [XT.val]
      by_cases hk3 : k3 < ts.length
      · rw [if_pos hk3] at HR3
        obtain ⟨g, rfl, t0, t1, t2, t3⟩ := row2 k3 hk3
        clear row2
        have hgr : w.heap.size + 1 ≤ g := by have := unhide HRG g 0 none rfl (by omega); simpa using this
        have hgn : g ≠ w.heap.size := by omega
        have hgn' : ¬ w.heap.size = g := by omega
        have HP := hide (show ((ts[k3].2.2 : Nat) : Int) = posT ts k3 n by simp [posT, hk3])
        generalize posT ts k3 n = pp at *
        generalize ts[k3] = tt at *
        obtain ⟨q1, q2, q3⟩ := tt
        dsimp only at t1 t2 t3 HP
        go_wp2_with fail
        go_region
        go_wp2_with fail
        refine bodyPost_ret (v := .tuple #[.agg #[.int .i64 0, .bool false, .int .i64 0, .int .i64 0, .string ⟨#[]⟩, .bool false, .bool false, .slice none 0 0], .int .i64 (q3 : Int), .int .i64 2]) (by simp [results, Tryd.results14, go_sem, y0, y1, y2, y3, y4, y5, y6, y7, y8]) rfl ?_
        rw [unhide HR3, unhide HP]
        exact ⟨⟨zX, rfl, zX_in _ _, zX_bare⟩, by (repeat (first | with_reducible assumption | with_reducible exact Below.refl _ _ | (with_reducible refine Below.setCell ?_ ?_ _; rotate_left; (focus (first | omega | (simp; done) | (simp; omega) | (dsimp only; omega)))) | (with_reducible refine Below.alloc ?_ ?_ _; rotate_left; (focus (first | omega | (simp; done) | (simp; omega) | (dsimp only; omega)))) | with_reducible refine Below.drew ?_ | with_reducible refine below_dN ?_ _))⟩
      · rw [if_neg hk3] at HR3
        clear row2
        go_wp2_with fail
        refine bodyPost_ret (v := .tuple #[.agg #[.int .i64 ek, .bool eb, .int .i64 em, .int .i64 es, .string et, .bool elo, .bool ehi, .slice ea el ec], .int .i64 (n : Int), .int .i64 0]) (by simp [results, Tryd.results14, go_sem, y0, y1, y2, y3, y4, y5, y6, y7, y8]) rfl ?_
        rw [unhide HR3]
        refine ⟨⟨_, rfl, ?_, hbr⟩, by (repeat (first | with_reducible assumption | with_reducible exact Below.refl _ _ | (with_reducible refine Below.setCell ?_ ?_ _; rotate_left; (focus (first | omega | (simp; done) | (simp; omega) | (dsimp only; omega)))) | (with_reducible refine Below.alloc ?_ ?_ _; rotate_left; (focus (first | omega | (simp; done) | (simp; omega) | (dsimp only; omega)))) | with_reducible refine Below.drew ?_ | with_reducible refine below_dN ?_ _))⟩
        refine XT.In.weak (Q := fun g => w.heap.size + 1 ≤ g) ?_ (fun g _ hg => by unfold Fr; omega)
        (repeat (first | with_reducible assumption | with_reducible refine XT.In.alloc ?_ _ | with_reducible refine XT.In.drew ?_ | with_reducible refine XT.In.drewN ?_ _ | (with_reducible refine XT.In.set ?_ ?_ _; rotate_left; (intro g hg; (focus (first | omega | (simp; done) | (simp; omega) | (dsimp only; omega)))))))
  · have e1 : ((e0 : Int) != 0) = true := by simp; omega
    have HR2 := hide (show RES = (zX, (n : Int), (e0 : Int)) by rw [unhide HR, if_pos he0])
    clear he0 HR row
    obtain ⟨y0, y1, y2, y3, y4, y5, y6, y7, y8, y9⟩ := unhide Z1
    go_wp2_with fail
    refine bodyPost_ret (v := .tuple #[.agg #[.int .i64 0, .bool false, .int .i64 0, .int .i64 0, .string ⟨#[]⟩, .bool false, .bool false, .slice none 0 0], .int .i64 (n : Int), .int .i64 (e0 : Int)]) (by simp [results, Tryd.results14, go_sem, y0, y1, y2, y3, y4, y5, y6, y7, y8]) rfl ?_
    rw [unhide HR2]
    exact ⟨⟨zX, rfl, zX_in _ _, zX_bare⟩, by (repeat (first | with_reducible assumption | with_reducible exact Below.refl _ _ | (with_reducible refine Below.setCell ?_ ?_ _; rotate_left; (focus (first | omega | (simp; done) | (simp; omega) | (dsimp only; omega)))) | (with_reducible refine Below.alloc ?_ ?_ _; rotate_left; (focus (first | omega | (simp; done) | (simp; omega) | (dsimp only; omega)))) | with_reducible refine Below.drew ?_ | with_reducible refine below_dN ?_ _))⟩
end Go.Proofs.YtejnmkhdnhggcaaDoor

/- What is known: brackets. -/
namespace Go.Proofs.YtejnmkhdnhggcaaDoor
open Go.RowKit
set_option linter.unusedVariables false
set_option linter.unusedSimpArgs false

def okSB : XT → Bool
  | .none => true
  | .mk _ _ m s t _ _ _ len _ kid => isB m s && (decide (t.size ≤ 1099511627776) && (decide (len ≤ 1099511627776) && (List.range len).all fun i => okSB (kid i)))
theorem okS_of (x : XT) : okSB x = true → okS x := by
  induction x with
  | none => intro _; trivial
  | mk k b m s t lo hi a len cap kid ih =>
    intro h
    unfold okSB at h
    simp only [Bool.and_eq_true, decide_eq_true_eq, List.all_eq_true, List.mem_range] at h
    exact ⟨h.1, h.2.1, h.2.2.1, fun i hi => ih i (h.2.2.2 i hi)⟩
theorem okS_bare (x : XT) : okS x.bare ↔ okS x := by
  induction x with
  | none => exact Iff.rfl
  | mk k b m s t lo hi a len cap kid ih =>
    unfold XT.bare okS
    constructor
    · rintro ⟨h1, h2, h3, hk⟩
      refine ⟨h1, h2, h3, fun i hi => ?_⟩
      have := hk i hi
      dsimp only at this
      rw [if_pos hi] at this
      exact (ih i).1 this
    · rintro ⟨h1, h2, h3, hk⟩
      refine ⟨h1, h2, h3, fun i hi => ?_⟩
      dsimp only
      rw [if_pos hi]
      exact (ih i).2 (hk i hi)
def knownS (X : XT × Int × Int) : Bool := decide (showX X.1 = [40, 49, 32, 43, 32, 40, 50, 32, 42, 32, 120, 41, 41]) && (decide (X.2.2 = 0) && okSB X.1)
theorem knownS_calc : knownS (parseT [49, 32, 43, 32, 50, 32, 42, 32, 120]) = true := by decide +kernel

set_option maxHeartbeats 1000000 in
theorem showv_bool (w : World) : Calls Tryd.prog 10 #[.agg #[.int .i64 1, .bool false, .int .i64 0, .int .i64 0, .string ⟨#[]⟩, .slice none 0 0]] w fun e w' => e = .returned (.string ⟨#[102, 97, 108, 115, 101]⟩) ∧ Below w.heap.size w w' := by
  have ADD : Hid (∀ V : World, BA w.heap.size (w.heap.size + 1) [] V → Calls Tryd.prog 23 #[.pointer (some ⟨w.heap.size + 1, 0, none⟩), .agg #[.int .i64 1, .bool false, .int .i64 0, .int .i64 0, .string ⟨#[]⟩, .slice none 0 0]] V fun e w' => e = .returned (.tuple #[]) ∧ Wr w.heap.size (w.heap.size + 1) [102, 97, 108, 115, 101] V w') := hide (fun V h => by
    have b0 := below1 V (Obj.cells #[.int .i64 1, .bool false, .int .i64 0, .int .i64 0, .string ⟨#[]⟩, .slice none 0 0] 29)
    have WS := hide (ws_any w.heap.size (w.heap.size + 1) [] (truL false) (V.alloc (Obj.cells #[.int .i64 1, .bool false, .int .i64 0, .int .i64 0, .string ⟨#[]⟩, .slice none 0 0] 29)) (h.alloc _) (by decide))
    have TR := hide (truth_any false (V.alloc (Obj.cells #[.int .i64 1, .bool false, .int .i64 0, .int .i64 0, .string ⟨#[]⟩, .slice none 0 0] 29)))
    have W0 := hide (Wr.of_below h b0)
    clear h
    go_enter Tryd.func23, Tryd.ntmps23
    go_wp2_with fail
    refine (unhide TR).mono ?_
    rintro e w9 ⟨rfl, rfl⟩
    go_wp2_with fail
    refine (unhide WS).mono ?_
    rintro e w2 ⟨rfl, k2⟩
    have F := hide ((unhide W0).trans k2)
    clear WS k2
    go_wp2_with fail
    go_end0
    exact ⟨rfl, unhide F⟩)
  have b2 := below2 w (Obj.cells #[.int .i64 1, .bool false, .int .i64 0, .int .i64 0, .string ⟨#[]⟩, .slice none 0 0] 29) (.cells #[.pointer none, .slice none 0 0] 47)
  have BN : BA w.heap.size (w.heap.size + 1) [] ((w.alloc (Obj.cells #[.int .i64 1, .bool false, .int .i64 0, .int .i64 0, .string ⟨#[]⟩, .slice none 0 0] 29)).alloc (.cells #[.pointer none, .slice none 0 0] 47)) := by
    have := BA.new (B := w.heap.size) (w := w.alloc (Obj.cells #[.int .i64 1, .bool false, .int .i64 0, .int .i64 0, .string ⟨#[]⟩, .slice none 0 0] 29)) (by simp)
    rwa [show (w.alloc (Obj.cells #[.int .i64 1, .bool false, .int .i64 0, .int .i64 0, .string ⟨#[]⟩, .slice none 0 0] 29)).heap.size = w.heap.size + 1 by simp] at this
  have RUN := hide (unhide ADD _ BN)
  clear ADD
  go_enter Tryd.func10, Tryd.ntmps10
  go_wp2_with fail
  refine (unhide RUN).mono ?_
  rintro e w2 ⟨rfl, k2⟩
  have ST := hide (bstr_any _ _ _ _ k2.ba)
  have B2 := b2.trans k2.2.1
  clear RUN k2
  go_wp2_with fail
  refine (unhide ST).mono ?_
  rintro e w3 ⟨rfl, b3⟩
  go_wp2_with fail
  go_ret
  exact ⟨rfl, B2.trans b3⟩

set_option maxHeartbeats 1000000 in
theorem sknown_any (w : World) (ht : Tab w) : Calls Tryd.prog 12 #[] w fun e w' => e = .returned (.bool true) ∧ Below w.heap.size w w' := by
  have P := hide (qparse_any [49, 32, 43, 32, 50, 32, 42, 32, 120] (by decide) w)
  have K := knownS_calc
  generalize parseT [49, 32, 43, 32, 50, 32, 42, 32, 120] = X at *
  obtain ⟨xt, n, e0⟩ := X
  unfold knownS at K
  simp only [Bool.and_eq_true, decide_eq_true_eq] at K
  obtain ⟨K1, rfl, K3⟩ := K
  have HT := hide ht
  have SV := hide (fun w' => showv_bool w')
  clear ht
  go_enter Tryd.func12, Tryd.ntmps12
  go_wp2_with fail
  refine (unhide P).mono ?_
  rintro e w1 ⟨⟨T, rfl, hin, hbr⟩, b1⟩
  have hs : showX T = [40, 49, 32, 43, 32, 40, 50, 32, 42, 32, 120, 41, 41] := by rw [← showX_bare, hbr]; exact K1
  have hok : okS T := (okS_bare T).1 (by rw [hbr]; exact okS_of _ K3)
  obtain ⟨tk, tb, tm, ts, tt, tlo, thi, ta, tn, tc, tkid, rfl⟩ := hin.form
  have b2 := below1 w1 (Obj.cells #[.int .i64 tk, .bool tb, .int .i64 tm, .int .i64 ts, .string tt, .bool tlo, .bool thi, .slice ta tn tc] 26)
  have RUN := hide (showx_any _ _ _ (hin.below b2) hok (tab_below (unhide HT) (bstep b1 b2)) (by rw [hs]; decide))
  rw [hs] at RUN
  have B2 := bstep b1 b2
  clear hbr K1 K3 hs hok hin P
  dsimp only [XT.val]
  go_wp2_with fail
  refine (unhide RUN).mono ?_
  rintro e w3 ⟨rfl, b3⟩
  go_wp2_with fail
  refine (unhide SV _).mono ?_
  rintro e w4 ⟨rfl, b4⟩
  go_wp2_with fail
  go_ret
  exact ⟨rfl, bstep (bstep B2 b3) b4⟩
end Go.Proofs.YtejnmkhdnhggcaaDoor

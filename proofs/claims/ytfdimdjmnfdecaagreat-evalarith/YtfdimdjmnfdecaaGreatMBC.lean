/- QAll ETold EEnv2 ELeaf EvX EvalArithM: laid together. -/
import Derived.Test.YtfdimdjmnfdecaaGreatMBB
import Derived.Test.YtfdimdjmnfdecaaGreatMAP
set_option linter.unusedVariables false
set_option linter.unusedSimpArgs false
set_option maxHeartbeats 8000000
namespace Go.Proofs.YtfdimdjmnfdecaaGreat
open Go.RowKit
section
variable {b : Nat} {a : Option Addr} {cap : Nat} {ts : List Tk} {en : Int}

theorem qatom_any (d : Nat) (e1 : Nat → RX) (hp : QPartOf b a cap ts en 72 (d + 1) e1) (hts : GoodTs ts) (h9 : ts.length ≤ 900) (hd : d ≤ 8) : QPartOf b a cap ts en 154 d (atomP ts e1) := by
 intro w k R
 by_cases hk : k < ts.length
 ·have hg := hts.2 k hk
  have hA := tokAt_in hk
  obtain ⟨tk, tt, tp, hTK⟩ : ∃ tk tt tp, ts[k] = (tk, tt, tp) := ⟨_, _, _, rfl⟩
  rw [hTK] at hA hg
  obtain ⟨g1, g2, g3⟩ := hg
  dsimp only at g1 g2 g3
  by_cases h2 : tk = 2
  ·subst h2
   rw [atom_num hk (by rw [hA]), hA]
   exact qatom_num d e1 hp hts h9 hd w k R hk tt tp hTK g1
  by_cases h3 : tk = 3
  ·subst h3
   rw [atom_text hk (by rw [hA]), hA]
   exact qatom_text d e1 hp hts h9 hd w k R hk tt tp hTK g1
  have e2 : ((tk : Int) == 2) = false := by rw [beq_eq_false_iff_ne]; omega
  have e3 : ((tk : Int) == 3) = false := by rw [beq_eq_false_iff_ne]; omega
  by_cases h1 : tk = 1
  ·subst h1
   cases hw : wordB tt with
   | false =>
    rw [atom_name hk (by rw [hA]) (by rw [hA]; exact hw), hA]
    exact qatom_name d e1 hp hts h9 hd w k R hk tt tp hTK g1 hw
   | true =>
    rw [atom_sign (by rw [hA]; simp) (by rw [hA]; simp) (by rw [hA]; exact fun _ => hw)]
    cases hF : fnd ts k six with
    | none => exact qsign_word_none d e1 hp hts h9 hd w k R hk tt tp hTK g1 hw hF
    | some m =>
     have hm := (fnd_lt hF).2
     simp only [six, List.mem_cons, List.not_mem_nil, or_false] at hm
     rcases hm with rfl | rfl | rfl | rfl | rfl | rfl
     ·exact qsign_word_true d e1 hp hts h9 hd w k R hk tt tp hTK g1 hw hF
     ·exact qsign_word_false d e1 hp hts h9 hd w k R hk tt tp hTK g1 hw hF
     ·exact qsign_word_null d e1 hp hts h9 hd w k R hk tt tp hTK g1 hw hF
     ·exact qsign_word_brack d e1 hp hts h9 hd w k R hk tt tp hTK g1 hw hF
     ·exact qsign_word_list d e1 hp hts h9 hd w k R hk tt tp hTK g1 hw hF
     ·exact qsign_word_if d e1 hp hts h9 hd w k R hk tt tp hTK g1 hw hF
  ·have e1' : ((tk : Int) == 1) = false := by rw [beq_eq_false_iff_ne]; omega
   rw [atom_sign (by rw [hA]; exact h2) (by rw [hA]; exact h3) (by rw [hA]; exact fun h => absurd h h1)]
   cases hF : fnd ts k six with
   | none => exact qsign_tok_none d e1 hp hts h9 hd w k R hk tk tt tp hTK g1 e2 e3 e1' hF
   | some m =>
    have hm := (fnd_lt hF).2
    simp only [six, List.mem_cons, List.not_mem_nil, or_false] at hm
    rcases hm with rfl | rfl | rfl | rfl | rfl | rfl
    ·exact qsign_tok_true d e1 hp hts h9 hd w k R hk tk tt tp hTK g1 e2 e3 e1' hF
    ·exact qsign_tok_false d e1 hp hts h9 hd w k R hk tk tt tp hTK g1 e2 e3 e1' hF
    ·exact qsign_tok_null d e1 hp hts h9 hd w k R hk tk tt tp hTK g1 e2 e3 e1' hF
    ·exact qsign_tok_brack d e1 hp hts h9 hd w k R hk tk tt tp hTK g1 e2 e3 e1' hF
    ·exact qsign_tok_list d e1 hp hts h9 hd w k R hk tk tt tp hTK g1 e2 e3 e1' hF
    ·exact qsign_tok_if d e1 hp hts h9 hd w k R hk tk tt tp hTK g1 e2 e3 e1' hF
 ·rw [atom_sign (by rw [tokAt_end (by omega)]; decide) (by rw [tokAt_end (by omega)]; decide) (by rw [tokAt_end (by omega)]; decide), sign_end (by omega)]
  exact qatom_end d hts w k R (by omega)
theorem qreader_all (hts : GoodTs ts) (h9 : ts.length ≤ 900) : ∀ f d, d + f = 9 → QPartOf b a cap ts en 153 d (UE ts f).1 ∧ QPartOf b a cap ts en 72 d (UE ts f).2 := by
 intro f
 induction f with
 | zero => intro d h; exact ⟨qunary_deep d hts (by omega), qexpr_deep d hts (by omega)⟩
 | succ f ih =>
  intro d h
  obtain ⟨hu, he⟩ := ih (d + 1) (by omega)
  have hu' := qunary_any d _ _ hu (qatom_any d _ he hts h9 (by omega)) hts (by omega)
  exact ⟨hu', qexpr_any d _ (qand_any d _ (qcmp_any d _ _ (qadd_any d _ (qmul_any d _ hu' hts) hts) he hts (by omega)) hts) hts (by omega)⟩
theorem Qd.new {w : World} {k : Nat} (h : Row w a ts) (hk : k ≤ ts.length) : Qd w.heap.size a cap ts en (w.alloc (.cells #[.slice a ts.length cap, .int .i64 (k : Int), .int .i64 en, .int .i64 0, .int .i64 0] 103)) k 0 0 := by
 refine ⟨by simp, hk, by go_simp, by go_simp, by go_simp, by go_simp, by go_simp, fun o => by go_simp, fun i hi => ?_⟩
 obtain ⟨g, h1, h2⟩ := h i hi
 exact ⟨g, h1, by have := h2.1; omega, h2.below (below1 _ _)⟩

theorem qtake_any (hts : GoodTs ts) (h9 : ts.length ≤ 900) (w : World) (k : Nat) (en : Int) (hr : Row w a ts) (hk : k ≤ ts.length) :
  Calls Tryz.prog 38 #[.slice a ts.length cap, .int .i64 (k : Int), .int .i64 en] w fun e w' => TakeRes w.heap.size (takeT ts k en) e w' ∧ (∀ c k', (UE ts 9).2 k = .er c k' → (c != 0) = true) ∧ Below w.heap.size w w' := by
 have hn := hts.1
 have HT := hide hts
 have HRow := hide hr
 have HR := hide (takeT.eq_1 ts k en)
 generalize takeT ts k en = RES at *
 clear hts hr
 have z0 := hide (ZB.new w 26)
 go_enter Tryz.func38, Tryz.ntmps38
 go_wp2_with fail
 have RN := Qd.new (cap := cap) (en := en) ((unhide HRow).below (below1 w (zO 26))) hk
 have eB : (w.alloc (zO 26)).heap.size = w.heap.size + 1 := by simp
 rw [eB] at RN
 refine ((qreader_all (unhide HT) h9 9 0 rfl).2 _ k RN).mono ?_
 have M0 := below2 w (zO 26) (.cells #[.slice a ts.length cap, .int .i64 (k : Int), .int .i64 en, .int .i64 0, .int .i64 0] 103)
 cases hE : (UE ts 9).2 k with
 | er c1 k1 =>
  rw [hE] at HR
  have HE0 := hide hE
  clear hE
  rintro e w1 ⟨n1, hc1, k2, hk2, R1, T, rfl, hin⟩
  have Z1 := ((unhide z0).alloc _).mv n1 (by omega)
  have z1 : w.heap.size + 2 ≤ w1.heap.size := by have := n1.size; simpa using this
  have b1 := n1.toBelow M0 (by omega)
  clear n1 z0
  obtain ⟨ek, eb, em, es, et, elo, ehi, ea, el, ec, ekid, rfl⟩ := hin.form
  clear hin
  have HR2 := hide (show RES = (zX, (k : Int), posT ts k1 en, c1) from unhide HR)
  clear HR
  generalize posT ts k1 en = pp at *
  obtain ⟨r1, r2, r3, r4, r5, r6, r7, r8, -⟩ := R1
  obtain ⟨y0, y1, y2, y3, y4, y5, y6, y7, y8, y9⟩ := Z1
  dsimp only [XT.val]
  go_wp2_with fail
  go_region
  go_wp2_with fail
  refine bodyPost_ret (v := .tuple #[.agg #[.int .i64 0, .bool false, .int .i64 0, .int .i64 0, .string ⟨#[]⟩, .bool false, .bool false, .slice none 0 0], .int .i64 (k : Int), .int .i64 pp, .int .i64 c1]) zR38y0y1y2y3y4y5y6y7y8 rfl ?_
  rw [unhide HR2]
  exact ⟨⟨zX, rfl, zX_in _ _, zX_bare⟩, fun c k' h => by rw [unhide HE0] at h; cases h; exact hc1, zBL⟩
 | ok x1 k1 =>
  rw [hE] at HR
  have HE0 := hide hE
  clear hE
  rintro e w1 ⟨n1, hk1, R1, T, rfl, hin, hbr⟩
  have Z1 := ((unhide z0).alloc _).mv n1 (by omega)
  have z1 : w.heap.size + 2 ≤ w1.heap.size := by have := n1.size; simpa using this
  have b1 := n1.toBelow M0 (by omega)
  have HI := hin.weak (Q' := fun g => w.heap.size + 1 ≤ g) (fun g _ hg => by unfold Fr at hg; simp at hg; omega)
  clear n1 z0
  have HR2 := hide (show RES = (x1, (k1 : Int), 0, 0) from unhide HR)
  clear HR
  obtain ⟨ek, eb, em, es, et, elo, ehi, ea, el, ec, ekid, rfl⟩ := hin.form
  clear hin
  obtain ⟨r1, r2, r3, r4, r5, r6, r7, r8, -⟩ := R1
  obtain ⟨y0, y1, y2, y3, y4, y5, y6, y7, y8, y9⟩ := Z1
  dsimp only [XT.val]
  go_wp2_with fail
  go_region
  go_wp2_with fail
  refine bodyPost_ret (v := .tuple #[.agg #[.int .i64 ek, .bool eb, .int .i64 em, .int .i64 es, .string et, .bool elo, .bool ehi, .slice ea el ec], .int .i64 (k1 : Int), .int .i64 0, .int .i64 0]) zR38y0y1y2y3y4y5y6y7y8 rfl ?_
  rw [unhide HR2]
  refine ⟨⟨_, rfl, ?_, hbr⟩, (fun c k' h => by rw [unhide HE0] at h; cases h), zBL⟩
  refine XT.In.weak (Q := fun g => w.heap.size + 1 ≤ g) ?_ (fun g _ hg => by unfold Fr; omega)
  exact zIN

theorem qparse_any (l : List UInt8) (hl : l.length ≤ 1000) (w : World) :
  Calls Tryz.prog 16 #[.string ⟨l.toArray⟩] w fun e w' => ParseRes w.heap.size (parseT l) e w' ∧ Below w.heap.size w w' := by
 have L := hide (rlex_all l (w.alloc (zO 26)) hl)
 have HG := hide (good_lex l hl)
 have h60 := lexT_len l
 have HR := hide (parseT.eq_1 l)
 generalize parseT l = RES at *
 generalize lexT l = LX at *
 obtain ⟨ts, n, e0⟩ := LX
 have z0 := hide (ZB.new w 26)
 go_enter Tryz.func16, Tryz.ntmps16
 go_wp2_with fail
 refine (unhide L).mono ?_
 rintro e w1 ⟨⟨v, rfl, own⟩, b1⟩
 have Z1 := hide ((unhide z0).below b1)
 have z1 : w.heap.size + 1 ≤ w1.heap.size := by have := b1.size; simpa using this
 have B1 := bstep (below1 w _) b1
 clear b1 z0 L
 obtain ⟨a, cap, rfl, row, hrg⟩ := row_of own
 clear own
 dsimp only at HR HG row hrg
 have HRG := hide hrg
 clear hrg
 have hn := (unhide HG).1
 by_cases he0 : e0 = 0
 ·subst he0
  have HR2 := hide (show RES = match (UE ts 9).2 0 with | .er c k' => (zX, posT ts k' n, c) | .ok x k' => if k' < ts.length then (zX, posT ts k' n, 2) else (x, (n : Int), 0) from unhide HR)
  clear HR
  have HRow := hide row
  have TK := hide (qtake_any (cap := cap) (unhide HG) (by have := h60; first | omega | (simp at this; omega)) w1 0 (n : Int) row (Nat.zero_le _))
  have TE := takeT.eq_1 ts 0 (n : Int)
  clear row
  go_wp2_with fail
  refine (unhide TK).mono ?_
  rintro e w2 ⟨⟨T, rfl, hin, hbr⟩, hce, b2⟩
  have Z2 := (unhide Z1).below b2
  have B2 := bstep B1 b2
  have z2 := b2.size
  have HI := hin.weak (Q' := fun g => w.heap.size + 1 ≤ g) (fun g _ hg => by unfold Fr at hg; omega)
  have row2 := (unhide HRow).below b2
  clear b2 Z1 TK HRow
  cases hE : (UE ts 9).2 0 with
  | er c3 k3 =>
   have hc3 := hce c3 k3 hE
   rw [hE] at HR2 TE
   clear hE hce
   rw [TE] at hbr ⊢
   dsimp only at hbr ⊢
   clear TE
   have HR3 := hide (show RES = (zX, posT ts k3 n, c3) from unhide HR2)
   clear HR2
   obtain ⟨ek, eb, em, es, et, elo, ehi, ea, el, ec, ekid, rfl⟩ := hin.form
   clear hin
   obtain ⟨y0, y1, y2, y3, y4, y5, y6, y7, y8, y9⟩ := Z2
   generalize posT ts k3 n = pp at *
   dsimp only [XT.val]
   go_wp2_with fail
   refine bodyPost_ret (v := .tuple #[.agg #[.int .i64 0, .bool false, .int .i64 0, .int .i64 0, .string ⟨#[]⟩, .bool false, .bool false, .slice none 0 0], .int .i64 pp, .int .i64 c3]) zR16y0y1y2y3y4y5y6y7y8 rfl ?_
   rw [unhide HR3]
   exact ⟨⟨zX, rfl, zX_in _ _, zX_bare⟩, zBL⟩
  | ok x3 k3 =>
   rw [hE] at HR2 TE
   clear hE
   rw [TE] at hbr ⊢
   dsimp only at hbr ⊢
   clear TE
   have HR3 := hide (show RES = if k3 < ts.length then (zX, posT ts k3 n, 2) else (x3, (n : Int), 0) from unhide HR2)
   clear HR2
   obtain ⟨ek, eb, em, es, et, elo, ehi, ea, el, ec, ekid, rfl⟩ := hin.form
   clear hin
   obtain ⟨y0, y1, y2, y3, y4, y5, y6, y7, y8, y9⟩ := Z2
   dsimp only [XT.val]
   by_cases hk3 : k3 < ts.length
   ·rw [if_pos hk3] at HR3
    obtain ⟨g, rfl, t0, t1, t2, t3⟩ := row2 k3 hk3
    clear row2
    have hgr : w.heap.size + 1 ≤ g := by have := unhide HRG g 0 none rfl (by omega); simpa using this
    have hgn : g ≠ w.heap.size := by omega
    have hgn' : ¬ w.heap.size = g := by omega
    have HP := hide (show ((ts[k3].2.2 : Nat) : Int) = posT ts k3 n by simp [posT, hk3])
    generalize posT ts k3 n = pp at *
    generalize ts[k3] = tt at *
    obtain ⟨q1, q2, q3⟩ := tt
    dsimp only at t1 t2 t3 HP
    go_wp2_with fail
    go_region
    go_wp2_with fail
    refine bodyPost_ret (v := .tuple #[.agg #[.int .i64 0, .bool false, .int .i64 0, .int .i64 0, .string ⟨#[]⟩, .bool false, .bool false, .slice none 0 0], .int .i64 (q3 : Int), .int .i64 2]) zR16y0y1y2y3y4y5y6y7y8 rfl ?_
    rw [unhide HR3, unhide HP]
    exact ⟨⟨zX, rfl, zX_in _ _, zX_bare⟩, zBL⟩
   ·rw [if_neg hk3] at HR3
    clear row2
    go_wp2_with fail
    refine bodyPost_ret (v := .tuple #[.agg #[.int .i64 ek, .bool eb, .int .i64 em, .int .i64 es, .string et, .bool elo, .bool ehi, .slice ea el ec], .int .i64 (n : Int), .int .i64 0]) zR16y0y1y2y3y4y5y6y7y8 rfl ?_
    rw [unhide HR3]
    refine ⟨⟨_, rfl, ?_, hbr⟩, zBL⟩
    refine XT.In.weak (Q := fun g => w.heap.size + 1 ≤ g) ?_ (fun g _ hg => by unfold Fr; omega)
    exact zIN
 ·have e1 : ((e0 : Int) != 0) = true := by simp; omega
  have HR2 := hide (show RES = (zX, (n : Int), (e0 : Int)) by rw [unhide HR, if_pos he0])
  clear he0 HR row
  obtain ⟨y0, y1, y2, y3, y4, y5, y6, y7, y8, y9⟩ := unhide Z1
  go_wp2_with fail
  refine bodyPost_ret (v := .tuple #[.agg #[.int .i64 0, .bool false, .int .i64 0, .int .i64 0, .string ⟨#[]⟩, .bool false, .bool false, .slice none 0 0], .int .i64 (n : Int), .int .i64 (e0 : Int)]) zR16y0y1y2y3y4y5y6y7y8 rfl ?_
  rw [unhide HR2]
  exact ⟨⟨zX, rfl, zX_in _ _, zX_bare⟩, zBL⟩
end

section
open VT (leaf mkV)

/- small texts and rows. -/
def smaX : XT → Bool
 | .none => true
 | .mk _ _ _ _ t _ _ _ len _ kid => decide (t.size ≤ 1000) && (decide (len ≤ 1000) && (List.range len).all fun i => smaX (kid i))
theorem fit_of_sma (x : XT) : smaX x.bare = true → fitX x := by
 induction x with
 | none => intro _; trivial
 | mk k b m s t lo hi a len cap kid ih =>
  intro h
  unfold XT.bare smaX at h
  simp only [Bool.and_eq_true, decide_eq_true_eq, List.all_eq_true, List.mem_range] at h
  refine ⟨by unfold maxLen; omega, by omega, fun i hi => ih i ?_⟩
  have := h.2.2 i hi
  rw [if_pos hi] at this
  exact this
/- the value of an answer, as a tree's first fields. -/
theorem num_form {T : VT} {m s : Int} {w : World} (h : T.In w) (hb : T.bare = numV m s) : ∃ a cap kid, T = .mk 2 false m s ⟨#[]⟩ a 0 cap kid := by
 obtain ⟨k, b, m', s', t, a, len, cap, kid, rfl⟩ := h.form
 unfold VT.bare numV VT.leaf at hb
 simp only [VT.mk.injEq] at hb
 obtain ⟨rfl, rfl, rfl, rfl, rfl, -, rfl, -, -⟩ := hb
 exact ⟨a, cap, kid, rfl⟩

theorem lnum_any (n : Int) (w : World) :
  Calls Tryz.prog 17 #[.int .i64 n] w fun e w' => e = .returned (lfv 2 false n 0 ⟨#[]⟩) ∧ Below w.heap.size w w' := by
 go_enter Tryz.func17, Tryz.ntmps17
 go_wp2_with fail
 exact bodyPost_ret (v := lfv 2 false n 0 ⟨#[]⟩) (by simp [results, Tryz.results17, go_sem, lfv]) rfl ⟨rfl, below1 _ _⟩

theorem told_any (l : List UInt8) (hl : l.length ≤ 1000) (X : XT) (n : Int) (hp : parseT l = (X, n, 0)) (hsm : smaX X = true) (es : List (ByteArray × VT)) (a9 : Option Addr) (c9 : Nat) (w : World) (henv : EnvIn w a9 es) (hel : es.length ≤ maxLen) (hok : ∀ e ∈ es, e.2.okB 2 = true) :
  Calls Tryz.prog 18 #[.string ⟨l.toArray⟩, .slice a9 es.length c9] w fun e w' => EvRes w.heap.size (evT (envT es) X) e w' ∧ Below w.heap.size w w' := by
 have b0 := bZ w
 have P := hide (qparse_any l hl (w.alloc (Obj.cells #[.int .i64 0, .bool false, .int .i64 0, .int .i64 0, .string ⟨#[]⟩, .slice none 0 0] 32)))
 rw [hp] at P
 have O0 := Own.new w 32
 have z0 : (w.alloc (Obj.cells #[.int .i64 0, .bool false, .int .i64 0, .int .i64 0, .string ⟨#[]⟩, .slice none 0 0] 32)).heap.size = w.heap.size + 1 := by simp
 have HSM := hide hsm
 have HENV := hide henv
 have HEL := hide hel
 have HOK := hide hok
 clear hp hl hsm henv hel hok
 generalize hR : evT (envT es) X = R
 have HR := hide hR
 clear hR
 go_enter Tryz.func18, Tryz.ntmps18
 go_wp2_with fail
 refine (unhide P).mono ?_
 rintro e w1 ⟨⟨T, rfl, hin, hbr⟩, b1⟩
 dsimp only at hbr ⊢
 obtain ⟨k, b, m, s, t, lo, hi, a, len, cap, kid, rfl⟩ := hin.form
 have O1 := O0.below b1
 have B1 := bstep b0 b1
 have z1 := b1.size
 rw [z0] at z1
 have b2 := below1 w1 (Obj.cells #[.int .i64 k, .bool b, .int .i64 m, .int .i64 s, .string t, .bool lo, .bool hi, .slice a len cap] 26)
 have EV := eval_any (XT.mk k b m s t lo hi a len cap kid) es a9 c9 _ ((hin.weak (Q' := fun _ => True) (fun _ _ _ => trivial)).below b2) (fit_of_sma _ (by rw [hbr]; exact unhide HSM)) ((unhide HENV).below (bstep B1 b2)) (unhide HEL) (unhide HOK)
 rw [← evT_bare, hbr, unhide HR] at EV
 have EVH := hide EV
 have O2 := O1.below b2
 have B2 := bstep B1 b2
 clear EV hin hbr O0 b0 b1 O1 B1 P
 dsimp only [XT.val]
 go_wp2_with fail
 refine (unhide EVH).mono ?_
 rintro e w3 ⟨⟨v, rfl, T, rfl, hT, hTl, hTb⟩, k3⟩
 obtain ⟨kz, bz, mz, sz, tz, az, lz, cz, kidz, rfl⟩ := hT.form
 dsimp only [VT.val]
 have O3 := O2.below k3
 have B3 := bstep B2 k3
 have z3 := k3.size
 simp at z3
 have YI := hide hT
 have YL := hide hTl
 have YB := hide hTb
 clear k3 O2 B2 b2 hT hTl hTb EVH
 obtain ⟨u0, t0, t1, t2, t3, t4, t5, f0, f1, f2, f3, f4, f5⟩ := Own.fl O3
 go_wp2_with fail
 refine bodyPost_ret (v := .tuple #[.agg #[.int .i64 kz, .bool bz, .int .i64 mz, .int .i64 sz, .string tz, .slice az lz cz], .int .i64 R.2]) (by simp [results, Tryz.results18, go_sem, t0, t1, t2, t3, t4, t5]) rfl ⟨⟨_, rfl, .mk kz bz mz sz tz az lz cz kidz, rfl, ?_, ?_, unhide YB⟩, zBL⟩
 ·exact VT.In.kept (fun bl o _ hq => put_cell w3 w.heap.size 0 _ _ _ _ _ _ (by simp at hq; omega)) _ (unhide YI) (unhide YL)
 ·exact (unhide YL).weak (fun h hh => by simp at hh; omega)

def knT : List UInt8 := [115, 117, 109, 40, 91, 49, 44, 32, 50, 44, 32, 51, 93, 41, 32, 47, 32, 52]
theorem kn_calc : ((parseT knT).2.2 = 0 ∧ smaX (parseT knT).1 = true) ∧ (kdV (evT [] (parseT knT).1).1 = 2 ∧ mOf (evT [] (parseT knT).1).1 = 15 ∧ sOf (evT [] (parseT knT).1).1 = 1 ∧ (evT [] (parseT knT).1).2 = 0) := by decide +kernel

theorem eknown_any (w : World) : Calls Tryz.prog 15 #[] w fun e w' => e = .returned (.bool true) ∧ Below w.heap.size w w' := by
 obtain ⟨⟨h1, h2⟩, h3, h4, h5, h6⟩ := kn_calc
 have TD := hide (told_any knT (by decide) (parseT knT).1 (parseT knT).2.1 (by rw [← h1]) h2 [] none 0 w (fun i hi => absurd hi (Nat.not_lt_zero _)) (Nat.zero_le _) (fun e he => by cases he))
 rw [show envT [] = [] from rfl] at TD
 generalize evT [] (parseT knT).1 = R at *
 obtain ⟨RX, RE⟩ := R
 dsimp only at h3 h4 h5 h6
 subst h6
 clear h1 h2
 unfold knT at TD
 go_enter Tryz.func15, Tryz.ntmps15
 go_wp2_with fail
 refine (unhide TD).mono ?_
 rintro e w1 ⟨⟨v, rfl, T, rfl, hT, hTl, hTb⟩, b1⟩
 obtain ⟨kz, bz, mz, sz, tz, az, lz, cz, kidz, rfl⟩ := hT.form
 dsimp only at hTb
 rw [← hTb] at h3 h4 h5
 have h3 : kz = 2 := h3
 have h4 : mz = 15 := h4
 have h5 : sz = 1 := h5
 subst h3 h4 h5
 clear hT hTl hTb TD
 dsimp only [VT.val]
 go_wp2_with fail
 go_ret
 exact ⟨rfl, bstep b1 (below1 _ _)⟩
end

section
open VT (leaf mkV)

theorem num_in {m : Int} (h1 : -1000000000 ≤ m) (h2 : m ≤ 1000000000) (w : World) : (numV m 0).In w := VT.in_leaf rfl (wf_in (by omega) (by omega)) rfl (Nat.zero_le _)
end

section
open VT (leaf mkV)

theorem in_leaf2 {w w' : World} {k : Int} {b : Bool} {m s : Int} {t : ByteArray} {a : Option Addr} {cap : Nat} {kid : Nat → VT} (h : (VT.mk k b m s t a 0 cap kid).In w) : (VT.mk k b m s t a 0 cap kid).In w' := ⟨h.1, fun i hi => absurd hi (Nat.not_lt_zero _)⟩
theorem in_leaf3 {w w' : World} {k : Int} {b : Bool} {m s : Int} {t : ByteArray} {a : Option Addr} {cap : Nat} {kid : Nat → VT} (h : (VT.mk k b m s t a 0 cap kid).In w) : (leaf k b m s t).In w' := ⟨⟨h.1.1, h.1.2.1, h.1.2.2.1, h.1.2.2.2.1, Nat.le_refl _, Nat.zero_le _⟩, fun i hi => absurd hi (Nat.not_lt_zero _)⟩
theorem slf_same0 {w0 : World} (k : Int) (b : Bool) (m s : Int) (t : ByteArray) (a : Option Addr) (cap : Nat) (kid : Nat → VT) (h : (VT.mk k b m s t a 0 cap kid).In w0) (w : World) :
  Calls Tryz.prog 13 #[.agg #[.int .i64 k, .bool b, .int .i64 m, .int .i64 s, .string t, .slice a 0 cap], .agg #[.int .i64 k, .bool b, .int .i64 m, .int .i64 s, .string t, .slice none 0 0]] w fun e w' => e = .returned (.bool true) ∧ Below w.heap.size w w' := by
 have e : (VT.mk k b m s t a 0 cap kid).same (leaf k b m s t) = true := VT.same_of_bare _ _ (in_leaf2 (w' := w) h) (in_leaf3 (w' := w) h) (by rw [VT.bare_leaf]; unfold leaf; rw [VT.bare_leaf]; rfl)
 have := same_any (VT.mk k b m s t a 0 cap kid) (leaf k b m s t) w (in_leaf2 h) (in_leaf3 h)
 rw [e] at this
 exact this
theorem slf_same {w0 : World} (k : Int) (b : Bool) (m s : Int) (t : ByteArray) (a : Option Addr) (cap : Nat) (kid : Nat → VT) (h : (VT.mk k b m s t a 0 cap kid).In w0) (w : World) :
  Calls Tryz.prog 13 #[.agg #[.int .i64 k, .bool b, .int .i64 m, .int .i64 s, .string t, .slice a 0 cap], .agg #[.int .i64 k, .bool b, .int .i64 m, .int .i64 s, .string t, .slice none 0 0]] w fun e w' => e = .returned (.bool true) ∧ Below w.heap.size w w' := slf_same0 k b m s t a cap kid h w
end

section
open VT (leaf mkV)

theorem tl_strB (l : List UInt8) : XT.tl (strB l) = l := by unfold XT.tl strB; simp
theorem kids_all (f : Nat → VT × Int) (l : List VT) (h : ∀ i (hi : i < l.length), f i = (l[i], 0)) : kidsT f l.length = (l, 0) := by
 have : ∀ n, n ≤ l.length → kidsT f n = (l.take n, 0) := by
  intro n
  induction n with
  | zero => intro _; simp [kidsT]
  | succ n ih =>
   intro hn
   unfold kidsT
   rw [ih (by omega), if_pos rfl, h n (by omega), if_pos rfl]
   dsimp only
   rw [List.take_succ_eq_append_getElem (by omega)]
 have h1 := this l.length (Nat.le_refl _)
 rwa [List.take_length] at h1
theorem ev_kids (env : List (List UInt8 × VT)) (k : Int) (b : Bool) (m s : Int) (t : ByteArray) (lo hi : Bool) (a : Option Addr) (cap : Nat) (kid : Nat → XT) (l : List VT) (len : Nat) (hlen : len = l.length) (hs : souB k m s t len = true) (h1 : k ≠ 1) (h2 : k ≠ 2) (h3 : k ≠ 3) (h4 : k ≠ 4) (h5 : k ≠ 5) (h8 : k ≠ 8) (h : ∀ i (hi : i < l.length), evT env (kid i) = (l[i], 0)) :
  evT env (.mk k b m s t lo hi a len cap kid) = joinT k t lo hi l := by
 subst hlen
 unfold evT
 rw [if_neg (by simp [hs]), if_neg h1, if_neg h2, if_neg h3, if_neg h4, if_neg h5, if_neg h8, kids_all _ l h, if_pos rfl]
theorem ev_name (env : List (List UInt8 × VT)) (t : List UInt8) : evT env (nameX t) = (lookT env t, 0) := by
 unfold nameX XT.mkX evT
 rw [if_neg (by simp [souB]), if_neg (by decide), if_neg (by decide), if_neg (by decide), if_neg (by decide), if_pos rfl, tl_strB]
theorem ev_bin (env : List (List UInt8 × VT)) (op : List UInt8) (x y : XT) (vx vy : VT) (hx : evT env x = (vx, 0)) (hy : evT env y = (vy, 0)) : evT env (binX op x y) = binT op vx vy := by
 unfold binX XT.mkX
 refine (ev_kids env 6 false 0 0 (strB op) false false none 0 (fun i => [x, y].getD i .none) [vx, vy] [x, y].length rfl (by simp [souB]) (by decide) (by decide) (by decide) (by decide) (by decide) (by decide) (fun i hi => by
  match i, hi with
  | 0, _ => exact hx
  | 1, _ => exact hy)).trans ?_
 unfold joinT
 rw [if_pos rfl, tl_strB]
 rfl
/- whole numbers that are held. -/
theorem fitR_whole {x : Int} (h1 : -1000000000 ≤ x) (h2 : x ≤ 1000000000) : fitR x 0 = (numV x 0, 0) := by
 have e := fit0 x h1 h2
 unfold fitR recT
 rw [e.1, e.2.1, e.2.2, if_pos rfl]
theorem add_whole {a b : Int} (h1 : -1000000000 ≤ a + b) (h2 : a + b ≤ 1000000000) : addR a 0 b 0 = (numV (a + b) 0, 0) := by
 unfold addR
 rw [up0, up0, show max (0 : Int) 0 = 0 from rfl]
 exact fitR_whole h1 h2
theorem sub_whole {a b : Int} (h1 : -1000000000 ≤ a - b) (h2 : a - b ≤ 1000000000) : subR a 0 b 0 = (numV (a - b) 0, 0) := by
 unfold subR
 rw [up0, up0, show max (0 : Int) 0 = 0 from rfl]
 exact fitR_whole h1 h2
theorem mul_whole {a b : Int} (h1 : -1000000000 ≤ a * b) (h2 : a * b ≤ 1000000000) : mulR a 0 b 0 = (numV (a * b) 0, 0) := by
 unfold mulR
 exact fitR_whole h1 h2
end

section
open VT (leaf mkV)

def opI (k : Nat) (a b : Int) : Int := if k = 0 then a + b else if k = 1 then a - b else a * b
def opC (k : Nat) : List UInt8 := if k = 0 then [43] else if k = 1 then [45] else [42]
theorem opI_bd {k : Nat} {a b : Int} (A B : Int) (hA : 0 ≤ A) (hB : 0 ≤ B) (a1 : -A ≤ a) (a2 : a ≤ A) (b1 : -B ≤ b) (b2 : b ≤ B) : -(A * B + A + B) ≤ opI k a b ∧ opI k a b ≤ A * B + A + B := by
 have hAB : 0 ≤ A * B := Int.mul_nonneg hA hB
 unfold opI
 split
 ·omega
 split
 ·omega
 ·by_cases h : 0 ≤ b
  ·have := mul_bd a b A B a1 a2 h b2 (by omega); omega
  ·have := mul_bd a (-b) A B a1 a2 (by omega) (by omega) (by omega)
   rw [Int.mul_neg] at this; omega
theorem mul1e3 {a b : Int} (a1 : -1000 ≤ a) (a2 : a ≤ 1000) (b1 : -1000 ≤ b) (b2 : b ≤ 1000) : -1000000 ≤ a * b ∧ a * b ≤ 1000000 := by
 by_cases h : 0 ≤ b
 ·have := mul_bd a b 1000 1000 a1 a2 h b2 (by omega); omega
 ·have := mul_bd a (-b) 1000 1000 a1 a2 (by omega) (by omega) (by omega)
  rw [Int.mul_neg] at this; omega
theorem mul1e6 {a b : Int} (a1 : -1000000 ≤ a) (a2 : a ≤ 1000000) (b1 : -1000 ≤ b) (b2 : b ≤ 1000) : -1000000000 ≤ a * b ∧ a * b ≤ 1000000000 := by
 by_cases h : 0 ≤ b
 ·have := mul_bd a b 1000000 1000 a1 a2 h b2 (by omega); omega
 ·have := mul_bd a (-b) 1000000 1000 a1 a2 (by omega) (by omega) (by omega)
  rw [Int.mul_neg] at this; omega
theorem op_bin {k : Nat} {a b : Int} (h1 : -1000000000 ≤ opI k a b) (h2 : opI k a b ≤ 1000000000) : binT (opC k) (numV a 0) (numV b 0) = (numV (opI k a b) 0, 0) := by
 unfold opI opC at *
 split
 ·rename_i h0
  rw [if_pos h0] at h1 h2
  exact (show binT [43] (numV a 0) (numV b 0) = addR a 0 b 0 from rfl).trans (add_whole h1 h2)
 rename_i h0
 rw [if_neg h0] at h1 h2
 split
 ·rename_i h3
  rw [if_pos h3] at h1 h2
  exact (show binT [45] (numV a 0) (numV b 0) = subR a 0 b 0 from rfl).trans (sub_whole h1 h2)
 rename_i h3
 rw [if_neg h3] at h1 h2
 exact (show binT [42] (numV a 0) (numV b 0) = mulR a 0 b 0 from rfl).trans (mul_whole h1 h2)
def arE (a b c : Int) : List (List UInt8 × VT) := [([97], numV a 0), ([98], numV b 0), ([99], numV c 0)]
theorem ar_a (a b c : Int) : evT (arE a b c) (nameX [97]) = (numV a 0, 0) := ev_name _ _
theorem ar_b (a b c : Int) : evT (arE a b c) (nameX [98]) = (numV b 0, 0) := ev_name _ _
theorem ar_c (a b c : Int) : evT (arE a b c) (nameX [99]) = (numV c 0, 0) := ev_name _ _
theorem num_bareE (a : Int) : (numV a 0).bare = numV a 0 := by unfold numV leaf; rw [VT.bare_leaf]; rfl
theorem ar_env (a b c : Int) : envT [(⟨#[97]⟩, numV a 0), (⟨#[98]⟩, numV b 0), (⟨#[99]⟩, numV c 0)] = arE a b c := by
 unfold envT
 simp only [List.map_cons, List.map_nil, num_bareE]
 rfl
theorem bap_app (l l' : List UInt8) : (⟨l.toArray⟩ : ByteArray) ++ ⟨l'.toArray⟩ = ⟨(l ++ l').toArray⟩ := by
 apply ByteArray.ext
 simp
def CellIs (w : World) (g o : Nat) (v : Value) : Prop := w.cell? ⟨g, o, none⟩ = some v
theorem cellIs_mk {w : World} {g o : Nat} {v : Value} (h : w.cell? ⟨g, o, none⟩ = some v) : CellIs w g o v := h
theorem CellIs.below {w w' : World} {g o : Nat} {v : Value} (h : CellIs w g o v) (k : Below w.heap.size w w') : CellIs w' g o v := kcell k (World.block_lt_of_cell? _ _ h) h
theorem env3 {w : World} {g : Nat} (n1 n2 n3 : ByteArray) (x y z : VT) (hx : x.In w) (hy : y.In w) (hz : z.In w) (h0 : w.cell? ⟨g, 0, none⟩ = some (.string n1)) (h1 : ∀ j, j < 6 → w.cell? ⟨g, 1 + j, none⟩ = x.cells[j]?) (h2 : w.cell? ⟨g, 7, none⟩ = some (.string n2)) (h3 : ∀ j, j < 6 → w.cell? ⟨g, 8 + j, none⟩ = y.cells[j]?) (h4 : w.cell? ⟨g, 14, none⟩ = some (.string n3)) (h5 : ∀ j, j < 6 → w.cell? ⟨g, 15 + j, none⟩ = z.cells[j]?) :
  EnvIn w (some ⟨g, 0, none⟩) [(n1, x), (n2, y), (n3, z)] := by
 intro i hi
 match i, hi with
 | 0, _ => exact ⟨⟨g, 0, rfl, h0, fun j hj => by simpa using h1 j hj⟩, hx⟩
 | 1, _ => exact ⟨⟨g, 0, rfl, h2, fun j hj => by simpa using h3 j hj⟩, hy⟩
 | 2, _ => exact ⟨⟨g, 0, rfl, h4, fun j hj => by simpa using h5 j hj⟩, hz⟩
theorem six_of {f : Nat → Option Value} {l : List Value} (h0 : f 0 = l[0]?) (h1 : f 1 = l[1]?) (h2 : f 2 = l[2]?) (h3 : f 3 = l[3]?) (h4 : f 4 = l[4]?) (h5 : f 5 = l[5]?) : ∀ j, j < 6 → f j = l[j]? := by
 intro j hj
 match j, hj with
 | 0, _ => exact h0
 | 1, _ => exact h1
 | 2, _ => exact h2
 | 3, _ => exact h3
 | 4, _ => exact h4
 | 5, _ => exact h5
theorem op_any (k : Nat) (hk : k ≤ 2) (a b : Int) (h1 : -1000000000 ≤ a) (h2 : a ≤ 1000000000) (h3 : -1000000000 ≤ b) (h4 : b ≤ 1000000000) (w : World) :
  Calls Tryz.prog 21 #[.int .i64 a, .int .i64 b, .int .i64 k] w fun e w' => e = .returned (.int .i64 (opI k a b)) ∧ w' = w := by
 have hb : -1000000000000000000 ≤ a * b ∧ a * b ≤ 1000000000000000000 := by
  by_cases h : 0 ≤ b
  ·have := mul_bd a b 1000000000 1000000000 h1 h2 h h4 (by omega); omega
  ·have := mul_bd a (-b) 1000000000 1000000000 h1 h2 (by omega) (by omega) (by omega)
   rw [Int.mul_neg] at this; omega
 have hw : IntKind.i64.wrap (a * b) = a * b := i64_in (by omega) (by omega)
 match k, hk with
 | 0, _ =>
  go_enter Tryz.func21, Tryz.ntmps21
  go_wp2_with fail
  go_ret
  exact ⟨ret_int rfl, rfl⟩
 | 1, _ =>
  go_enter Tryz.func21, Tryz.ntmps21
  go_wp2_with fail
  go_ret
  exact ⟨ret_int rfl, rfl⟩
 | 2, _ =>
  go_enter Tryz.func21, Tryz.ntmps21
  go_wp2_with fail
  go_ret
  exact ⟨ret_int rfl, rfl⟩

def arL00 : List UInt8 := [97, 32, 43, 32, 98, 32, 43, 32, 99]
theorem ar_calc00 : (parseT arL00).2.2 = 0 ∧ smaX (parseT arL00).1 = true := by decide +kernel
theorem ar_x00 : (parseT arL00).1 = binX [43] (binX [43] (nameX [97]) (nameX [98])) (nameX [99]) := by kernel_rfl
theorem ar_ev00 (a b c : Int) (a1 : -1000 ≤ a) (a2 : a ≤ 1000) (b1 : -1000 ≤ b) (b2 : b ≤ 1000) (c1 : -1000 ≤ c) (c2 : c ≤ 1000) : evT (arE a b c) (parseT arL00).1 = (numV (opI 0 (opI 0 a b) c) 0, 0) := by
 rw [ar_x00]
 refine (ev_bin _ _ _ _ _ _ ((ev_bin _ _ _ _ _ _ (ar_a a b c) (ar_b a b c)).trans (op_bin (k := 0) (by have := opI_bd (k := 0) 1000 1000 (by omega) (by omega) a1 a2 b1 b2; omega) (by have := opI_bd (k := 0) 1000 1000 (by omega) (by omega) a1 a2 b1 b2; omega))) (ar_c a b c)).trans ?_
 have h := opI_bd (k := 0) 1000 1000 (by omega) (by omega) a1 a2 b1 b2
 have hp : -1000000 ≤ opI 0 a b ∧ opI 0 a b ≤ 1000000 := by
  unfold opI
  simp
  omega
 generalize opI 0 a b = z at *
 exact op_bin (k := 0) (by unfold opI; simp; omega) (by unfold opI; simp; omega)
def arL01 : List UInt8 := [97, 32, 43, 32, 98, 32, 45, 32, 99]
theorem ar_calc01 : (parseT arL01).2.2 = 0 ∧ smaX (parseT arL01).1 = true := by decide +kernel
theorem ar_x01 : (parseT arL01).1 = binX [45] (binX [43] (nameX [97]) (nameX [98])) (nameX [99]) := by kernel_rfl
theorem ar_ev01 (a b c : Int) (a1 : -1000 ≤ a) (a2 : a ≤ 1000) (b1 : -1000 ≤ b) (b2 : b ≤ 1000) (c1 : -1000 ≤ c) (c2 : c ≤ 1000) : evT (arE a b c) (parseT arL01).1 = (numV (opI 1 (opI 0 a b) c) 0, 0) := by
 rw [ar_x01]
 refine (ev_bin _ _ _ _ _ _ ((ev_bin _ _ _ _ _ _ (ar_a a b c) (ar_b a b c)).trans (op_bin (k := 0) (by have := opI_bd (k := 0) 1000 1000 (by omega) (by omega) a1 a2 b1 b2; omega) (by have := opI_bd (k := 0) 1000 1000 (by omega) (by omega) a1 a2 b1 b2; omega))) (ar_c a b c)).trans ?_
 have h := opI_bd (k := 0) 1000 1000 (by omega) (by omega) a1 a2 b1 b2
 have hp : -1000000 ≤ opI 0 a b ∧ opI 0 a b ≤ 1000000 := by
  unfold opI
  simp
  omega
 generalize opI 0 a b = z at *
 exact op_bin (k := 1) (by unfold opI; simp; omega) (by unfold opI; simp; omega)
def arL02 : List UInt8 := [97, 32, 43, 32, 98, 32, 42, 32, 99]
theorem ar_calc02 : (parseT arL02).2.2 = 0 ∧ smaX (parseT arL02).1 = true := by decide +kernel
theorem ar_x02 : (parseT arL02).1 = binX [43] (nameX [97]) (binX [42] (nameX [98]) (nameX [99])) := by kernel_rfl
theorem ar_ev02 (a b c : Int) (a1 : -1000 ≤ a) (a2 : a ≤ 1000) (b1 : -1000 ≤ b) (b2 : b ≤ 1000) (c1 : -1000 ≤ c) (c2 : c ≤ 1000) : evT (arE a b c) (parseT arL02).1 = (numV (opI 0 a (opI 2 b c)) 0, 0) := by
 rw [ar_x02]
 refine (ev_bin _ _ _ _ _ _ (ar_a a b c) ((ev_bin _ _ _ _ _ _ (ar_b a b c) (ar_c a b c)).trans (op_bin (k := 2) (by have := opI_bd (k := 2) 1000 1000 (by omega) (by omega) b1 b2 c1 c2; omega) (by have := opI_bd (k := 2) 1000 1000 (by omega) (by omega) b1 b2 c1 c2; omega)))).trans ?_
 have h := opI_bd (k := 2) 1000 1000 (by omega) (by omega) b1 b2 c1 c2
 generalize opI 2 b c = z at *
 exact op_bin (k := 0) (by unfold opI; simp; omega) (by unfold opI; simp; omega)
def arL10 : List UInt8 := [97, 32, 45, 32, 98, 32, 43, 32, 99]
theorem ar_calc10 : (parseT arL10).2.2 = 0 ∧ smaX (parseT arL10).1 = true := by decide +kernel
theorem ar_x10 : (parseT arL10).1 = binX [43] (binX [45] (nameX [97]) (nameX [98])) (nameX [99]) := by kernel_rfl
theorem ar_ev10 (a b c : Int) (a1 : -1000 ≤ a) (a2 : a ≤ 1000) (b1 : -1000 ≤ b) (b2 : b ≤ 1000) (c1 : -1000 ≤ c) (c2 : c ≤ 1000) : evT (arE a b c) (parseT arL10).1 = (numV (opI 0 (opI 1 a b) c) 0, 0) := by
 rw [ar_x10]
 refine (ev_bin _ _ _ _ _ _ ((ev_bin _ _ _ _ _ _ (ar_a a b c) (ar_b a b c)).trans (op_bin (k := 1) (by have := opI_bd (k := 1) 1000 1000 (by omega) (by omega) a1 a2 b1 b2; omega) (by have := opI_bd (k := 1) 1000 1000 (by omega) (by omega) a1 a2 b1 b2; omega))) (ar_c a b c)).trans ?_
 have h := opI_bd (k := 1) 1000 1000 (by omega) (by omega) a1 a2 b1 b2
 have hp : -1000000 ≤ opI 1 a b ∧ opI 1 a b ≤ 1000000 := by
  unfold opI
  simp
  omega
 generalize opI 1 a b = z at *
 exact op_bin (k := 0) (by unfold opI; simp; omega) (by unfold opI; simp; omega)
def arL11 : List UInt8 := [97, 32, 45, 32, 98, 32, 45, 32, 99]
theorem ar_calc11 : (parseT arL11).2.2 = 0 ∧ smaX (parseT arL11).1 = true := by decide +kernel
theorem ar_x11 : (parseT arL11).1 = binX [45] (binX [45] (nameX [97]) (nameX [98])) (nameX [99]) := by kernel_rfl
theorem ar_ev11 (a b c : Int) (a1 : -1000 ≤ a) (a2 : a ≤ 1000) (b1 : -1000 ≤ b) (b2 : b ≤ 1000) (c1 : -1000 ≤ c) (c2 : c ≤ 1000) : evT (arE a b c) (parseT arL11).1 = (numV (opI 1 (opI 1 a b) c) 0, 0) := by
 rw [ar_x11]
 refine (ev_bin _ _ _ _ _ _ ((ev_bin _ _ _ _ _ _ (ar_a a b c) (ar_b a b c)).trans (op_bin (k := 1) (by have := opI_bd (k := 1) 1000 1000 (by omega) (by omega) a1 a2 b1 b2; omega) (by have := opI_bd (k := 1) 1000 1000 (by omega) (by omega) a1 a2 b1 b2; omega))) (ar_c a b c)).trans ?_
 have h := opI_bd (k := 1) 1000 1000 (by omega) (by omega) a1 a2 b1 b2
 have hp : -1000000 ≤ opI 1 a b ∧ opI 1 a b ≤ 1000000 := by
  unfold opI
  simp
  omega
 generalize opI 1 a b = z at *
 exact op_bin (k := 1) (by unfold opI; simp; omega) (by unfold opI; simp; omega)
def arL12 : List UInt8 := [97, 32, 45, 32, 98, 32, 42, 32, 99]
theorem ar_calc12 : (parseT arL12).2.2 = 0 ∧ smaX (parseT arL12).1 = true := by decide +kernel
theorem ar_x12 : (parseT arL12).1 = binX [45] (nameX [97]) (binX [42] (nameX [98]) (nameX [99])) := by kernel_rfl
theorem ar_ev12 (a b c : Int) (a1 : -1000 ≤ a) (a2 : a ≤ 1000) (b1 : -1000 ≤ b) (b2 : b ≤ 1000) (c1 : -1000 ≤ c) (c2 : c ≤ 1000) : evT (arE a b c) (parseT arL12).1 = (numV (opI 1 a (opI 2 b c)) 0, 0) := by
 rw [ar_x12]
 refine (ev_bin _ _ _ _ _ _ (ar_a a b c) ((ev_bin _ _ _ _ _ _ (ar_b a b c) (ar_c a b c)).trans (op_bin (k := 2) (by have := opI_bd (k := 2) 1000 1000 (by omega) (by omega) b1 b2 c1 c2; omega) (by have := opI_bd (k := 2) 1000 1000 (by omega) (by omega) b1 b2 c1 c2; omega)))).trans ?_
 have h := opI_bd (k := 2) 1000 1000 (by omega) (by omega) b1 b2 c1 c2
 generalize opI 2 b c = z at *
 exact op_bin (k := 1) (by unfold opI; simp; omega) (by unfold opI; simp; omega)
def arL20 : List UInt8 := [97, 32, 42, 32, 98, 32, 43, 32, 99]
theorem ar_calc20 : (parseT arL20).2.2 = 0 ∧ smaX (parseT arL20).1 = true := by decide +kernel
theorem ar_x20 : (parseT arL20).1 = binX [43] (binX [42] (nameX [97]) (nameX [98])) (nameX [99]) := by kernel_rfl
theorem ar_ev20 (a b c : Int) (a1 : -1000 ≤ a) (a2 : a ≤ 1000) (b1 : -1000 ≤ b) (b2 : b ≤ 1000) (c1 : -1000 ≤ c) (c2 : c ≤ 1000) : evT (arE a b c) (parseT arL20).1 = (numV (opI 0 (opI 2 a b) c) 0, 0) := by
 rw [ar_x20]
 refine (ev_bin _ _ _ _ _ _ ((ev_bin _ _ _ _ _ _ (ar_a a b c) (ar_b a b c)).trans (op_bin (k := 2) (by have := opI_bd (k := 2) 1000 1000 (by omega) (by omega) a1 a2 b1 b2; omega) (by have := opI_bd (k := 2) 1000 1000 (by omega) (by omega) a1 a2 b1 b2; omega))) (ar_c a b c)).trans ?_
 have h := opI_bd (k := 2) 1000 1000 (by omega) (by omega) a1 a2 b1 b2
 have hp : -1000000 ≤ opI 2 a b ∧ opI 2 a b ≤ 1000000 := by
  unfold opI
  simp
  exact mul1e3 a1 a2 b1 b2
 generalize opI 2 a b = z at *
 exact op_bin (k := 0) (by unfold opI; simp; omega) (by unfold opI; simp; omega)
def arL21 : List UInt8 := [97, 32, 42, 32, 98, 32, 45, 32, 99]
theorem ar_calc21 : (parseT arL21).2.2 = 0 ∧ smaX (parseT arL21).1 = true := by decide +kernel
theorem ar_x21 : (parseT arL21).1 = binX [45] (binX [42] (nameX [97]) (nameX [98])) (nameX [99]) := by kernel_rfl
theorem ar_ev21 (a b c : Int) (a1 : -1000 ≤ a) (a2 : a ≤ 1000) (b1 : -1000 ≤ b) (b2 : b ≤ 1000) (c1 : -1000 ≤ c) (c2 : c ≤ 1000) : evT (arE a b c) (parseT arL21).1 = (numV (opI 1 (opI 2 a b) c) 0, 0) := by
 rw [ar_x21]
 refine (ev_bin _ _ _ _ _ _ ((ev_bin _ _ _ _ _ _ (ar_a a b c) (ar_b a b c)).trans (op_bin (k := 2) (by have := opI_bd (k := 2) 1000 1000 (by omega) (by omega) a1 a2 b1 b2; omega) (by have := opI_bd (k := 2) 1000 1000 (by omega) (by omega) a1 a2 b1 b2; omega))) (ar_c a b c)).trans ?_
 have h := opI_bd (k := 2) 1000 1000 (by omega) (by omega) a1 a2 b1 b2
 have hp : -1000000 ≤ opI 2 a b ∧ opI 2 a b ≤ 1000000 := by
  unfold opI
  simp
  exact mul1e3 a1 a2 b1 b2
 generalize opI 2 a b = z at *
 exact op_bin (k := 1) (by unfold opI; simp; omega) (by unfold opI; simp; omega)
def arL22 : List UInt8 := [97, 32, 42, 32, 98, 32, 42, 32, 99]
theorem ar_calc22 : (parseT arL22).2.2 = 0 ∧ smaX (parseT arL22).1 = true := by decide +kernel
theorem ar_x22 : (parseT arL22).1 = binX [42] (binX [42] (nameX [97]) (nameX [98])) (nameX [99]) := by kernel_rfl
theorem ar_ev22 (a b c : Int) (a1 : -1000 ≤ a) (a2 : a ≤ 1000) (b1 : -1000 ≤ b) (b2 : b ≤ 1000) (c1 : -1000 ≤ c) (c2 : c ≤ 1000) : evT (arE a b c) (parseT arL22).1 = (numV (opI 2 (opI 2 a b) c) 0, 0) := by
 rw [ar_x22]
 refine (ev_bin _ _ _ _ _ _ ((ev_bin _ _ _ _ _ _ (ar_a a b c) (ar_b a b c)).trans (op_bin (k := 2) (by have := opI_bd (k := 2) 1000 1000 (by omega) (by omega) a1 a2 b1 b2; omega) (by have := opI_bd (k := 2) 1000 1000 (by omega) (by omega) a1 a2 b1 b2; omega))) (ar_c a b c)).trans ?_
 have h := opI_bd (k := 2) 1000 1000 (by omega) (by omega) a1 a2 b1 b2
 have hp : -1000000 ≤ opI 2 a b ∧ opI 2 a b ≤ 1000000 := by
  unfold opI
  simp
  exact mul1e3 a1 a2 b1 b2
 generalize opI 2 a b = z at *
 exact op_bin (k := 2) (by unfold opI; simp; exact (mul1e6 hp.1 hp.2 c1 c2).1) (by unfold opI; simp; exact (mul1e6 hp.1 hp.2 c1 c2).2)
def arL (p q : Nat) : List UInt8 := [97, 32] ++ opC p ++ [32, 98, 32] ++ opC q ++ [32, 99]
def arW (p q : Nat) (a b c : Int) : Int := if p < 2 ∧ q = 2 then opI p a (opI 2 b c) else opI q (opI p a b) c
theorem opC_len (k : Nat) : (opC k).length ≤ 1 := by unfold opC; split <;> (try split) <;> simp
theorem ar_all {p q : Nat} (hp : p < 3) (hq : q < 3) : (parseT (arL p q)).2.2 = 0 ∧ smaX (parseT (arL p q)).1 = true ∧ (arL p q).length ≤ 1000 := by
 match p, hp, q, hq with
 | 0, _, 0, _ => exact ⟨ar_calc00.1, ar_calc00.2, by decide⟩
 | 0, _, 1, _ => exact ⟨ar_calc01.1, ar_calc01.2, by decide⟩
 | 0, _, 2, _ => exact ⟨ar_calc02.1, ar_calc02.2, by decide⟩
 | 1, _, 0, _ => exact ⟨ar_calc10.1, ar_calc10.2, by decide⟩
 | 1, _, 1, _ => exact ⟨ar_calc11.1, ar_calc11.2, by decide⟩
 | 1, _, 2, _ => exact ⟨ar_calc12.1, ar_calc12.2, by decide⟩
 | 2, _, 0, _ => exact ⟨ar_calc20.1, ar_calc20.2, by decide⟩
 | 2, _, 1, _ => exact ⟨ar_calc21.1, ar_calc21.2, by decide⟩
 | 2, _, 2, _ => exact ⟨ar_calc22.1, ar_calc22.2, by decide⟩
theorem ar_evs {p q : Nat} (hp : p < 3) (hq : q < 3) (a b c : Int) (a1 : -1000 ≤ a) (a2 : a ≤ 1000) (b1 : -1000 ≤ b) (b2 : b ≤ 1000) (c1 : -1000 ≤ c) (c2 : c ≤ 1000) : evT (arE a b c) (parseT (arL p q)).1 = (numV (arW p q a b c) 0, 0) := by
 match p, hp, q, hq with
 | 0, _, 0, _ => exact ar_ev00 a b c a1 a2 b1 b2 c1 c2
 | 0, _, 1, _ => exact ar_ev01 a b c a1 a2 b1 b2 c1 c2
 | 0, _, 2, _ => exact ar_ev02 a b c a1 a2 b1 b2 c1 c2
 | 1, _, 0, _ => exact ar_ev10 a b c a1 a2 b1 b2 c1 c2
 | 1, _, 1, _ => exact ar_ev11 a b c a1 a2 b1 b2 c1 c2
 | 1, _, 2, _ => exact ar_ev12 a b c a1 a2 b1 b2 c1 c2
 | 2, _, 0, _ => exact ar_ev20 a b c a1 a2 b1 b2 c1 c2
 | 2, _, 1, _ => exact ar_ev21 a b c a1 a2 b1 b2 c1 c2
 | 2, _, 2, _ => exact ar_ev22 a b c a1 a2 b1 b2 c1 c2
theorem str_cell (w : World) {p : Nat} (hp : p < 3) : (w.alloc (Obj.cells #[.string ⟨#[43]⟩, .string ⟨#[45]⟩, .string ⟨#[42]⟩] 9)).cell? ⟨w.heap.size, p, none⟩ = some (.string ⟨(opC p).toArray⟩) := by
 match p, hp with
 | 0, _ => go_simp; rfl
 | 1, _ => go_simp; rfl
 | 2, _ => go_simp; rfl
end
end Go.Proofs.YtfdimdjmnfdecaaGreat

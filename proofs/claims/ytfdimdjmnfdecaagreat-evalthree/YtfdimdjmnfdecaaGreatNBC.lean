/- QAll ETold EEnv2 ELeaf EvalThreeM: laid together. -/
import Derived.Test.YtfdimdjmnfdecaaGreatNBB
import Derived.Test.YtfdimdjmnfdecaaGreatNAP
set_option linter.unusedVariables false
set_option linter.unusedSimpArgs false
set_option maxHeartbeats 8000000
namespace Go.Proofs.YtfdimdjmnfdecaaGreat
open Go.RowKit
section
variable {b : Nat} {a : Option Addr} {cap : Nat} {ts : List Tk} {en : Int}

theorem qatom_any (d : Nat) (e1 : Nat → RX) (hp : QPartOf b a cap ts en 72 (d + 1) e1) (hts : GoodTs ts) (h9 : ts.length ≤ 900) (hd : d ≤ 8) : QPartOf b a cap ts en 154 d (atomP ts e1) := by
 intro w k R
 by_cases hk : k < ts.length
 ·have hg := hts.2 k hk
  have hA := tokAt_in hk
  obtain ⟨tk, tt, tp, hTK⟩ : ∃ tk tt tp, ts[k] = (tk, tt, tp) := ⟨_, _, _, rfl⟩
  rw [hTK] at hA hg
  obtain ⟨g1, g2, g3⟩ := hg
  dsimp only at g1 g2 g3
  by_cases h2 : tk = 2
  ·subst h2
   rw [atom_num hk (by rw [hA]), hA]
   exact qatom_num d e1 hp hts h9 hd w k R hk tt tp hTK g1
  by_cases h3 : tk = 3
  ·subst h3
   rw [atom_text hk (by rw [hA]), hA]
   exact qatom_text d e1 hp hts h9 hd w k R hk tt tp hTK g1
  have e2 : ((tk : Int) == 2) = false := by rw [beq_eq_false_iff_ne]; omega
  have e3 : ((tk : Int) == 3) = false := by rw [beq_eq_false_iff_ne]; omega
  by_cases h1 : tk = 1
  ·subst h1
   cases hw : wordB tt with
   | false =>
    rw [atom_name hk (by rw [hA]) (by rw [hA]; exact hw), hA]
    exact qatom_name d e1 hp hts h9 hd w k R hk tt tp hTK g1 hw
   | true =>
    rw [atom_sign (by rw [hA]; simp) (by rw [hA]; simp) (by rw [hA]; exact fun _ => hw)]
    cases hF : fnd ts k six with
    | none => exact qsign_word_none d e1 hp hts h9 hd w k R hk tt tp hTK g1 hw hF
    | some m =>
     have hm := (fnd_lt hF).2
     simp only [six, List.mem_cons, List.not_mem_nil, or_false] at hm
     rcases hm with rfl | rfl | rfl | rfl | rfl | rfl
     ·exact qsign_word_true d e1 hp hts h9 hd w k R hk tt tp hTK g1 hw hF
     ·exact qsign_word_false d e1 hp hts h9 hd w k R hk tt tp hTK g1 hw hF
     ·exact qsign_word_null d e1 hp hts h9 hd w k R hk tt tp hTK g1 hw hF
     ·exact qsign_word_brack d e1 hp hts h9 hd w k R hk tt tp hTK g1 hw hF
     ·exact qsign_word_list d e1 hp hts h9 hd w k R hk tt tp hTK g1 hw hF
     ·exact qsign_word_if d e1 hp hts h9 hd w k R hk tt tp hTK g1 hw hF
  ·have e1' : ((tk : Int) == 1) = false := by rw [beq_eq_false_iff_ne]; omega
   rw [atom_sign (by rw [hA]; exact h2) (by rw [hA]; exact h3) (by rw [hA]; exact fun h => absurd h h1)]
   cases hF : fnd ts k six with
   | none => exact qsign_tok_none d e1 hp hts h9 hd w k R hk tk tt tp hTK g1 e2 e3 e1' hF
   | some m =>
    have hm := (fnd_lt hF).2
    simp only [six, List.mem_cons, List.not_mem_nil, or_false] at hm
    rcases hm with rfl | rfl | rfl | rfl | rfl | rfl
    ·exact qsign_tok_true d e1 hp hts h9 hd w k R hk tk tt tp hTK g1 e2 e3 e1' hF
    ·exact qsign_tok_false d e1 hp hts h9 hd w k R hk tk tt tp hTK g1 e2 e3 e1' hF
    ·exact qsign_tok_null d e1 hp hts h9 hd w k R hk tk tt tp hTK g1 e2 e3 e1' hF
    ·exact qsign_tok_brack d e1 hp hts h9 hd w k R hk tk tt tp hTK g1 e2 e3 e1' hF
    ·exact qsign_tok_list d e1 hp hts h9 hd w k R hk tk tt tp hTK g1 e2 e3 e1' hF
    ·exact qsign_tok_if d e1 hp hts h9 hd w k R hk tk tt tp hTK g1 e2 e3 e1' hF
 ·rw [atom_sign (by rw [tokAt_end (by omega)]; decide) (by rw [tokAt_end (by omega)]; decide) (by rw [tokAt_end (by omega)]; decide), sign_end (by omega)]
  exact qatom_end d hts w k R (by omega)
theorem qreader_all (hts : GoodTs ts) (h9 : ts.length ≤ 900) : ∀ f d, d + f = 9 → QPartOf b a cap ts en 153 d (UE ts f).1 ∧ QPartOf b a cap ts en 72 d (UE ts f).2 := by
 intro f
 induction f with
 | zero => intro d h; exact ⟨qunary_deep d hts (by omega), qexpr_deep d hts (by omega)⟩
 | succ f ih =>
  intro d h
  obtain ⟨hu, he⟩ := ih (d + 1) (by omega)
  have hu' := qunary_any d _ _ hu (qatom_any d _ he hts h9 (by omega)) hts (by omega)
  exact ⟨hu', qexpr_any d _ (qand_any d _ (qcmp_any d _ _ (qadd_any d _ (qmul_any d _ hu' hts) hts) he hts (by omega)) hts) hts (by omega)⟩
theorem Qd.new {w : World} {k : Nat} (h : Row w a ts) (hk : k ≤ ts.length) : Qd w.heap.size a cap ts en (w.alloc (.cells #[.slice a ts.length cap, .int .i64 (k : Int), .int .i64 en, .int .i64 0, .int .i64 0] 103)) k 0 0 := by
 refine ⟨by simp, hk, by go_simp, by go_simp, by go_simp, by go_simp, by go_simp, fun o => by go_simp, fun i hi => ?_⟩
 obtain ⟨g, h1, h2⟩ := h i hi
 exact ⟨g, h1, by have := h2.1; omega, h2.below (below1 _ _)⟩

theorem qtake_any (hts : GoodTs ts) (h9 : ts.length ≤ 900) (w : World) (k : Nat) (en : Int) (hr : Row w a ts) (hk : k ≤ ts.length) :
  Calls Tryz.prog 38 #[.slice a ts.length cap, .int .i64 (k : Int), .int .i64 en] w fun e w' => TakeRes w.heap.size (takeT ts k en) e w' ∧ (∀ c k', (UE ts 9).2 k = .er c k' → (c != 0) = true) ∧ Below w.heap.size w w' := by
 have hn := hts.1
 have HT := hide hts
 have HRow := hide hr
 have HR := hide (takeT.eq_1 ts k en)
 generalize takeT ts k en = RES at *
 clear hts hr
 have z0 := hide (ZB.new w 26)
 go_enter Tryz.func38, Tryz.ntmps38
 go_wp2_with fail
 have RN := Qd.new (cap := cap) (en := en) ((unhide HRow).below (below1 w (zO 26))) hk
 have eB : (w.alloc (zO 26)).heap.size = w.heap.size + 1 := by simp
 rw [eB] at RN
 refine ((qreader_all (unhide HT) h9 9 0 rfl).2 _ k RN).mono ?_
 have M0 := below2 w (zO 26) (.cells #[.slice a ts.length cap, .int .i64 (k : Int), .int .i64 en, .int .i64 0, .int .i64 0] 103)
 cases hE : (UE ts 9).2 k with
 | er c1 k1 =>
  rw [hE] at HR
  have HE0 := hide hE
  clear hE
  rintro e w1 ⟨n1, hc1, k2, hk2, R1, T, rfl, hin⟩
  have Z1 := ((unhide z0).alloc _).mv n1 (by omega)
  have z1 : w.heap.size + 2 ≤ w1.heap.size := by have := n1.size; simpa using this
  have b1 := n1.toBelow M0 (by omega)
  clear n1 z0
  obtain ⟨ek, eb, em, es, et, elo, ehi, ea, el, ec, ekid, rfl⟩ := hin.form
  clear hin
  have HR2 := hide (show RES = (zX, (k : Int), posT ts k1 en, c1) from unhide HR)
  clear HR
  generalize posT ts k1 en = pp at *
  obtain ⟨r1, r2, r3, r4, r5, r6, r7, r8, -⟩ := R1
  obtain ⟨y0, y1, y2, y3, y4, y5, y6, y7, y8, y9⟩ := Z1
  dsimp only [XT.val]
  go_wp2_with fail
  go_region
  go_wp2_with fail
  refine bodyPost_ret (v := .tuple #[.agg #[.int .i64 0, .bool false, .int .i64 0, .int .i64 0, .string ⟨#[]⟩, .bool false, .bool false, .slice none 0 0], .int .i64 (k : Int), .int .i64 pp, .int .i64 c1]) zR38y0y1y2y3y4y5y6y7y8 rfl ?_
  rw [unhide HR2]
  exact ⟨⟨zX, rfl, zX_in _ _, zX_bare⟩, fun c k' h => by rw [unhide HE0] at h; cases h; exact hc1, zBL⟩
 | ok x1 k1 =>
  rw [hE] at HR
  have HE0 := hide hE
  clear hE
  rintro e w1 ⟨n1, hk1, R1, T, rfl, hin, hbr⟩
  have Z1 := ((unhide z0).alloc _).mv n1 (by omega)
  have z1 : w.heap.size + 2 ≤ w1.heap.size := by have := n1.size; simpa using this
  have b1 := n1.toBelow M0 (by omega)
  have HI := hin.weak (Q' := fun g => w.heap.size + 1 ≤ g) (fun g _ hg => by unfold Fr at hg; simp at hg; omega)
  clear n1 z0
  have HR2 := hide (show RES = (x1, (k1 : Int), 0, 0) from unhide HR)
  clear HR
  obtain ⟨ek, eb, em, es, et, elo, ehi, ea, el, ec, ekid, rfl⟩ := hin.form
  clear hin
  obtain ⟨r1, r2, r3, r4, r5, r6, r7, r8, -⟩ := R1
  obtain ⟨y0, y1, y2, y3, y4, y5, y6, y7, y8, y9⟩ := Z1
  dsimp only [XT.val]
  go_wp2_with fail
  go_region
  go_wp2_with fail
  refine bodyPost_ret (v := .tuple #[.agg #[.int .i64 ek, .bool eb, .int .i64 em, .int .i64 es, .string et, .bool elo, .bool ehi, .slice ea el ec], .int .i64 (k1 : Int), .int .i64 0, .int .i64 0]) zR38y0y1y2y3y4y5y6y7y8 rfl ?_
  rw [unhide HR2]
  refine ⟨⟨_, rfl, ?_, hbr⟩, (fun c k' h => by rw [unhide HE0] at h; cases h), zBL⟩
  refine XT.In.weak (Q := fun g => w.heap.size + 1 ≤ g) ?_ (fun g _ hg => by unfold Fr; omega)
  exact zIN

theorem qparse_any (l : List UInt8) (hl : l.length ≤ 1000) (w : World) :
  Calls Tryz.prog 16 #[.string ⟨l.toArray⟩] w fun e w' => ParseRes w.heap.size (parseT l) e w' ∧ Below w.heap.size w w' := by
 have L := hide (rlex_all l (w.alloc (zO 26)) hl)
 have HG := hide (good_lex l hl)
 have h60 := lexT_len l
 have HR := hide (parseT.eq_1 l)
 generalize parseT l = RES at *
 generalize lexT l = LX at *
 obtain ⟨ts, n, e0⟩ := LX
 have z0 := hide (ZB.new w 26)
 go_enter Tryz.func16, Tryz.ntmps16
 go_wp2_with fail
 refine (unhide L).mono ?_
 rintro e w1 ⟨⟨v, rfl, own⟩, b1⟩
 have Z1 := hide ((unhide z0).below b1)
 have z1 : w.heap.size + 1 ≤ w1.heap.size := by have := b1.size; simpa using this
 have B1 := bstep (below1 w _) b1
 clear b1 z0 L
 obtain ⟨a, cap, rfl, row, hrg⟩ := row_of own
 clear own
 dsimp only at HR HG row hrg
 have HRG := hide hrg
 clear hrg
 have hn := (unhide HG).1
 by_cases he0 : e0 = 0
 ·subst he0
  have HR2 := hide (show RES = match (UE ts 9).2 0 with | .er c k' => (zX, posT ts k' n, c) | .ok x k' => if k' < ts.length then (zX, posT ts k' n, 2) else (x, (n : Int), 0) from unhide HR)
  clear HR
  have HRow := hide row
  have TK := hide (qtake_any (cap := cap) (unhide HG) (by have := h60; first | omega | (simp at this; omega)) w1 0 (n : Int) row (Nat.zero_le _))
  have TE := takeT.eq_1 ts 0 (n : Int)
  clear row
  go_wp2_with fail
  refine (unhide TK).mono ?_
  rintro e w2 ⟨⟨T, rfl, hin, hbr⟩, hce, b2⟩
  have Z2 := (unhide Z1).below b2
  have B2 := bstep B1 b2
  have z2 := b2.size
  have HI := hin.weak (Q' := fun g => w.heap.size + 1 ≤ g) (fun g _ hg => by unfold Fr at hg; omega)
  have row2 := (unhide HRow).below b2
  clear b2 Z1 TK HRow
  cases hE : (UE ts 9).2 0 with
  | er c3 k3 =>
   have hc3 := hce c3 k3 hE
   rw [hE] at HR2 TE
   clear hE hce
   rw [TE] at hbr ⊢
   dsimp only at hbr ⊢
   clear TE
   have HR3 := hide (show RES = (zX, posT ts k3 n, c3) from unhide HR2)
   clear HR2
   obtain ⟨ek, eb, em, es, et, elo, ehi, ea, el, ec, ekid, rfl⟩ := hin.form
   clear hin
   obtain ⟨y0, y1, y2, y3, y4, y5, y6, y7, y8, y9⟩ := Z2
   generalize posT ts k3 n = pp at *
   dsimp only [XT.val]
   go_wp2_with fail
   refine bodyPost_ret (v := .tuple #[.agg #[.int .i64 0, .bool false, .int .i64 0, .int .i64 0, .string ⟨#[]⟩, .bool false, .bool false, .slice none 0 0], .int .i64 pp, .int .i64 c3]) zR16y0y1y2y3y4y5y6y7y8 rfl ?_
   rw [unhide HR3]
   exact ⟨⟨zX, rfl, zX_in _ _, zX_bare⟩, zBL⟩
  | ok x3 k3 =>
   rw [hE] at HR2 TE
   clear hE
   rw [TE] at hbr ⊢
   dsimp only at hbr ⊢
   clear TE
   have HR3 := hide (show RES = if k3 < ts.length then (zX, posT ts k3 n, 2) else (x3, (n : Int), 0) from unhide HR2)
   clear HR2
   obtain ⟨ek, eb, em, es, et, elo, ehi, ea, el, ec, ekid, rfl⟩ := hin.form
   clear hin
   obtain ⟨y0, y1, y2, y3, y4, y5, y6, y7, y8, y9⟩ := Z2
   dsimp only [XT.val]
   by_cases hk3 : k3 < ts.length
   ·rw [if_pos hk3] at HR3
    obtain ⟨g, rfl, t0, t1, t2, t3⟩ := row2 k3 hk3
    clear row2
    have hgr : w.heap.size + 1 ≤ g := by have := unhide HRG g 0 none rfl (by omega); simpa using this
    have hgn : g ≠ w.heap.size := by omega
    have hgn' : ¬ w.heap.size = g := by omega
    have HP := hide (show ((ts[k3].2.2 : Nat) : Int) = posT ts k3 n by simp [posT, hk3])
    generalize posT ts k3 n = pp at *
    generalize ts[k3] = tt at *
    obtain ⟨q1, q2, q3⟩ := tt
    dsimp only at t1 t2 t3 HP
    go_wp2_with fail
    go_region
    go_wp2_with fail
    refine bodyPost_ret (v := .tuple #[.agg #[.int .i64 0, .bool false, .int .i64 0, .int .i64 0, .string ⟨#[]⟩, .bool false, .bool false, .slice none 0 0], .int .i64 (q3 : Int), .int .i64 2]) zR16y0y1y2y3y4y5y6y7y8 rfl ?_
    rw [unhide HR3, unhide HP]
    exact ⟨⟨zX, rfl, zX_in _ _, zX_bare⟩, zBL⟩
   ·rw [if_neg hk3] at HR3
    clear row2
    go_wp2_with fail
    refine bodyPost_ret (v := .tuple #[.agg #[.int .i64 ek, .bool eb, .int .i64 em, .int .i64 es, .string et, .bool elo, .bool ehi, .slice ea el ec], .int .i64 (n : Int), .int .i64 0]) zR16y0y1y2y3y4y5y6y7y8 rfl ?_
    rw [unhide HR3]
    refine ⟨⟨_, rfl, ?_, hbr⟩, zBL⟩
    refine XT.In.weak (Q := fun g => w.heap.size + 1 ≤ g) ?_ (fun g _ hg => by unfold Fr; omega)
    exact zIN
 ·have e1 : ((e0 : Int) != 0) = true := by simp; omega
  have HR2 := hide (show RES = (zX, (n : Int), (e0 : Int)) by rw [unhide HR, if_pos he0])
  clear he0 HR row
  obtain ⟨y0, y1, y2, y3, y4, y5, y6, y7, y8, y9⟩ := unhide Z1
  go_wp2_with fail
  refine bodyPost_ret (v := .tuple #[.agg #[.int .i64 0, .bool false, .int .i64 0, .int .i64 0, .string ⟨#[]⟩, .bool false, .bool false, .slice none 0 0], .int .i64 (n : Int), .int .i64 (e0 : Int)]) zR16y0y1y2y3y4y5y6y7y8 rfl ?_
  rw [unhide HR2]
  exact ⟨⟨zX, rfl, zX_in _ _, zX_bare⟩, zBL⟩
end

section
open VT (leaf mkV)

/- small texts and rows. -/
def smaX : XT → Bool
 | .none => true
 | .mk _ _ _ _ t _ _ _ len _ kid => decide (t.size ≤ 1000) && (decide (len ≤ 1000) && (List.range len).all fun i => smaX (kid i))
theorem fit_of_sma (x : XT) : smaX x.bare = true → fitX x := by
 induction x with
 | none => intro _; trivial
 | mk k b m s t lo hi a len cap kid ih =>
  intro h
  unfold XT.bare smaX at h
  simp only [Bool.and_eq_true, decide_eq_true_eq, List.all_eq_true, List.mem_range] at h
  refine ⟨by unfold maxLen; omega, by omega, fun i hi => ih i ?_⟩
  have := h.2.2 i hi
  rw [if_pos hi] at this
  exact this
theorem told_any (l : List UInt8) (hl : l.length ≤ 1000) (X : XT) (n : Int) (hp : parseT l = (X, n, 0)) (hsm : smaX X = true) (es : List (ByteArray × VT)) (a9 : Option Addr) (c9 : Nat) (w : World) (henv : EnvIn w a9 es) (hel : es.length ≤ maxLen) (hok : ∀ e ∈ es, e.2.okB 2 = true) :
  Calls Tryz.prog 18 #[.string ⟨l.toArray⟩, .slice a9 es.length c9] w fun e w' => EvRes w.heap.size (evT (envT es) X) e w' ∧ Below w.heap.size w w' := by
 have b0 := bZ w
 have P := hide (qparse_any l hl (w.alloc (Obj.cells #[.int .i64 0, .bool false, .int .i64 0, .int .i64 0, .string ⟨#[]⟩, .slice none 0 0] 32)))
 rw [hp] at P
 have O0 := Own.new w 32
 have z0 : (w.alloc (Obj.cells #[.int .i64 0, .bool false, .int .i64 0, .int .i64 0, .string ⟨#[]⟩, .slice none 0 0] 32)).heap.size = w.heap.size + 1 := by simp
 have HSM := hide hsm
 have HENV := hide henv
 have HEL := hide hel
 have HOK := hide hok
 clear hp hl hsm henv hel hok
 generalize hR : evT (envT es) X = R
 have HR := hide hR
 clear hR
 go_enter Tryz.func18, Tryz.ntmps18
 go_wp2_with fail
 refine (unhide P).mono ?_
 rintro e w1 ⟨⟨T, rfl, hin, hbr⟩, b1⟩
 dsimp only at hbr ⊢
 obtain ⟨k, b, m, s, t, lo, hi, a, len, cap, kid, rfl⟩ := hin.form
 have O1 := O0.below b1
 have B1 := bstep b0 b1
 have z1 := b1.size
 rw [z0] at z1
 have b2 := below1 w1 (Obj.cells #[.int .i64 k, .bool b, .int .i64 m, .int .i64 s, .string t, .bool lo, .bool hi, .slice a len cap] 26)
 have EV := eval_any (XT.mk k b m s t lo hi a len cap kid) es a9 c9 _ ((hin.weak (Q' := fun _ => True) (fun _ _ _ => trivial)).below b2) (fit_of_sma _ (by rw [hbr]; exact unhide HSM)) ((unhide HENV).below (bstep B1 b2)) (unhide HEL) (unhide HOK)
 rw [← evT_bare, hbr, unhide HR] at EV
 have EVH := hide EV
 have O2 := O1.below b2
 have B2 := bstep B1 b2
 clear EV hin hbr O0 b0 b1 O1 B1 P
 dsimp only [XT.val]
 go_wp2_with fail
 refine (unhide EVH).mono ?_
 rintro e w3 ⟨⟨v, rfl, T, rfl, hT, hTl, hTb⟩, k3⟩
 obtain ⟨kz, bz, mz, sz, tz, az, lz, cz, kidz, rfl⟩ := hT.form
 dsimp only [VT.val]
 have O3 := O2.below k3
 have B3 := bstep B2 k3
 have z3 := k3.size
 simp at z3
 have YI := hide hT
 have YL := hide hTl
 have YB := hide hTb
 clear k3 O2 B2 b2 hT hTl hTb EVH
 obtain ⟨u0, t0, t1, t2, t3, t4, t5, f0, f1, f2, f3, f4, f5⟩ := Own.fl O3
 go_wp2_with fail
 refine bodyPost_ret (v := .tuple #[.agg #[.int .i64 kz, .bool bz, .int .i64 mz, .int .i64 sz, .string tz, .slice az lz cz], .int .i64 R.2]) (by simp [results, Tryz.results18, go_sem, t0, t1, t2, t3, t4, t5]) rfl ⟨⟨_, rfl, .mk kz bz mz sz tz az lz cz kidz, rfl, ?_, ?_, unhide YB⟩, zBL⟩
 ·exact VT.In.kept (fun bl o _ hq => put_cell w3 w.heap.size 0 _ _ _ _ _ _ (by simp at hq; omega)) _ (unhide YI) (unhide YL)
 ·exact (unhide YL).weak (fun h hh => by simp at hh; omega)

def knT : List UInt8 := [115, 117, 109, 40, 91, 49, 44, 32, 50, 44, 32, 51, 93, 41, 32, 47, 32, 52]
theorem kn_calc : ((parseT knT).2.2 = 0 ∧ smaX (parseT knT).1 = true) ∧ (kdV (evT [] (parseT knT).1).1 = 2 ∧ mOf (evT [] (parseT knT).1).1 = 15 ∧ sOf (evT [] (parseT knT).1).1 = 1 ∧ (evT [] (parseT knT).1).2 = 0) := by decide +kernel

theorem eknown_any (w : World) : Calls Tryz.prog 15 #[] w fun e w' => e = .returned (.bool true) ∧ Below w.heap.size w w' := by
 obtain ⟨⟨h1, h2⟩, h3, h4, h5, h6⟩ := kn_calc
 have TD := hide (told_any knT (by decide) (parseT knT).1 (parseT knT).2.1 (by rw [← h1]) h2 [] none 0 w (fun i hi => absurd hi (Nat.not_lt_zero _)) (Nat.zero_le _) (fun e he => by cases he))
 rw [show envT [] = [] from rfl] at TD
 generalize evT [] (parseT knT).1 = R at *
 obtain ⟨RX, RE⟩ := R
 dsimp only at h3 h4 h5 h6
 subst h6
 clear h1 h2
 unfold knT at TD
 go_enter Tryz.func15, Tryz.ntmps15
 go_wp2_with fail
 refine (unhide TD).mono ?_
 rintro e w1 ⟨⟨v, rfl, T, rfl, hT, hTl, hTb⟩, b1⟩
 obtain ⟨kz, bz, mz, sz, tz, az, lz, cz, kidz, rfl⟩ := hT.form
 dsimp only at hTb
 rw [← hTb] at h3 h4 h5
 have h3 : kz = 2 := h3
 have h4 : mz = 15 := h4
 have h5 : sz = 1 := h5
 subst h3 h4 h5
 clear hT hTl hTb TD
 dsimp only [VT.val]
 go_wp2_with fail
 go_ret
 exact ⟨rfl, bstep b1 (below1 _ _)⟩
end

section
open VT (leaf mkV)

theorem env2 {w : World} {g : Nat} (n1 n2 : ByteArray) (x y : VT) (hx : x.In w) (hy : y.In w) (h0 : w.cell? ⟨g, 0, none⟩ = some (.string n1)) (h1 : ∀ j, j < 6 → w.cell? ⟨g, 1 + j, none⟩ = x.cells[j]?) (h2 : w.cell? ⟨g, 7, none⟩ = some (.string n2)) (h3 : ∀ j, j < 6 → w.cell? ⟨g, 8 + j, none⟩ = y.cells[j]?) :
  EnvIn w (some ⟨g, 0, none⟩) [(n1, x), (n2, y)] := by
 intro i hi
 match i, hi with
 | 0, _ => exact ⟨⟨g, 0, rfl, h0, fun j hj => by simpa using h1 j hj⟩, hx⟩
 | 1, _ => exact ⟨⟨g, 0, rfl, h2, fun j hj => by simpa using h3 j hj⟩, hy⟩
end

section
open VT (leaf mkV)

theorem leaf_form {T : VT} {k : Int} {b : Bool} {m s : Int} {t : ByteArray} {w : World} (h : T.In w) (hb : T.bare = leaf k b m s t) : ∃ a cap kid, T = .mk k b m s t a 0 cap kid := by
 obtain ⟨k', b', m', s', t', a, len, cap, kid, rfl⟩ := h.form
 unfold VT.bare VT.leaf at hb
 simp only [VT.mk.injEq] at hb
 obtain ⟨rfl, rfl, rfl, rfl, rfl, -, rfl, -, -⟩ := hb
 exact ⟨a, cap, kid, rfl⟩
theorem in_leaf2 {w w' : World} {k : Int} {b : Bool} {m s : Int} {t : ByteArray} {a : Option Addr} {cap : Nat} {kid : Nat → VT} (h : (VT.mk k b m s t a 0 cap kid).In w) : (VT.mk k b m s t a 0 cap kid).In w' := ⟨h.1, fun i hi => absurd hi (Nat.not_lt_zero _)⟩
theorem in_leaf3 {w w' : World} {k : Int} {b : Bool} {m s : Int} {t : ByteArray} {a : Option Addr} {cap : Nat} {kid : Nat → VT} (h : (VT.mk k b m s t a 0 cap kid).In w) : (leaf k b m s t).In w' := ⟨⟨h.1.1, h.1.2.1, h.1.2.2.1, h.1.2.2.2.1, Nat.le_refl _, Nat.zero_le _⟩, fun i hi => absurd hi (Nat.not_lt_zero _)⟩
theorem slf_same0 {w0 : World} (k : Int) (b : Bool) (m s : Int) (t : ByteArray) (a : Option Addr) (cap : Nat) (kid : Nat → VT) (h : (VT.mk k b m s t a 0 cap kid).In w0) (w : World) :
  Calls Tryz.prog 13 #[.agg #[.int .i64 k, .bool b, .int .i64 m, .int .i64 s, .string t, .slice a 0 cap], .agg #[.int .i64 k, .bool b, .int .i64 m, .int .i64 s, .string t, .slice none 0 0]] w fun e w' => e = .returned (.bool true) ∧ Below w.heap.size w w' := by
 have e : (VT.mk k b m s t a 0 cap kid).same (leaf k b m s t) = true := VT.same_of_bare _ _ (in_leaf2 (w' := w) h) (in_leaf3 (w' := w) h) (by rw [VT.bare_leaf]; unfold leaf; rw [VT.bare_leaf]; rfl)
 have := same_any (VT.mk k b m s t a 0 cap kid) (leaf k b m s t) w (in_leaf2 h) (in_leaf3 h)
 rw [e] at this
 exact this
theorem slf_same {w0 : World} (k : Int) (b : Bool) (m s : Int) (t : ByteArray) (a : Option Addr) (cap : Nat) (kid : Nat → VT) (h : (VT.mk k b m s t a 0 cap kid).In w0) (w : World) :
  Calls Tryz.prog 13 #[.agg #[.int .i64 k, .bool b, .int .i64 m, .int .i64 s, .string t, .slice a 0 cap], .agg #[.int .i64 k, .bool b, .int .i64 m, .int .i64 s, .string t, .slice none 0 0]] w fun e w' => e = .returned (.bool true) ∧ Below w.heap.size w w' := slf_same0 k b m s t a cap kid h w
end

section
open VT (leaf mkV)
attribute [local go_sem ↓] Go.wp_at_zero Go.wp_at_succ

theorem env_bare (x y : VT) (hx : x.bare = x) (hy : y.bare = y) : envT [(⟨#[97]⟩, x), (⟨#[98]⟩, y)] = [([97], x), ([98], y)] := by
 unfold envT
 simp only [List.map_cons, List.map_nil, hx, hy]
 rfl
theorem boo_bareE (b : Bool) : (booV b).bare = booV b := by unfold booV leaf; rw [VT.bare_leaf]; rfl
theorem nil_bareE : nilV.bare = nilV := by unfold nilV leaf; rw [VT.bare_leaf]; rfl
theorem thr_TD (L : List UInt8) (hL : L.length ≤ 1000) (h : (parseT L).2.2 = 0 ∧ smaX (parseT L).1 = true) (x y : VT) (hx : x.okB 2 = true) (hy : y.okB 2 = true) (bx : x.bare = x) (by' : y.bare = y) (R : VT × Int) (he : evT [([97], x), ([98], y)] (parseT L).1 = R) (a9 : Option Addr) (w : World) (henv : EnvIn w a9 [(⟨#[97]⟩, x), (⟨#[98]⟩, y)]) :
  Calls Tryz.prog 18 #[.string ⟨L.toArray⟩, .slice a9 2 2] w fun e w' => EvRes w.heap.size R e w' ∧ Below w.heap.size w w' := by
 have T := told_any L hL (parseT L).1 (parseT L).2.1 (by rw [← h.1]) h.2 [(⟨#[97]⟩, x), (⟨#[98]⟩, y)] a9 2 w henv (by unfold maxLen; simp) (fun e he => by
  rcases List.mem_cons.1 he with h | h
  ·rw [h]; exact hx
  rcases List.mem_cons.1 h with h | h
  ·rw [h]; exact hy
  ·cases h)
 rw [env_bare _ _ bx by', he] at T
 exact T
theorem boo_in (b : Bool) (w : World) : (booV b).In w := VT.in_leaf rfl rfl rfl (Nat.zero_le _)
theorem nil_in (w : World) : nilV.In w := VT.in_leaf rfl rfl rfl (Nat.zero_le _)
def thL0 : List UInt8 := [97, 32, 97, 110, 100, 32, 98]
theorem th_calc0 : (parseT thL0).2.2 = 0 ∧ smaX (parseT thL0).1 = true := by decide +kernel
def thL1 : List UInt8 := [97, 32, 111, 114, 32, 98]
theorem th_calc1 : (parseT thL1).2.2 = 0 ∧ smaX (parseT thL1).1 = true := by decide +kernel
def thL2 : List UInt8 := [110, 111, 116, 40, 97, 41]
theorem th_calc2 : (parseT thL2).2.2 = 0 ∧ smaX (parseT thL2).1 = true := by decide +kernel
theorem thr_cells (w : World) : (w.alloc (Obj.cells #[.int .i64 1, .bool false, .int .i64 0, .int .i64 0, .string ⟨#[]⟩, .slice none 0 0, .int .i64 1, .bool true, .int .i64 0, .int .i64 0, .string ⟨#[]⟩, .slice none 0 0, .int .i64 0, .bool false, .int .i64 0, .int .i64 0, .string ⟨#[]⟩, .slice none 0 0] 32)).cell? ⟨w.heap.size, 0, none⟩ = some (.int .i64 1) ∧ (w.alloc (Obj.cells #[.int .i64 1, .bool false, .int .i64 0, .int .i64 0, .string ⟨#[]⟩, .slice none 0 0, .int .i64 1, .bool true, .int .i64 0, .int .i64 0, .string ⟨#[]⟩, .slice none 0 0, .int .i64 0, .bool false, .int .i64 0, .int .i64 0, .string ⟨#[]⟩, .slice none 0 0] 32)).cell? ⟨w.heap.size, 1, none⟩ = some (.bool false) ∧ (w.alloc (Obj.cells #[.int .i64 1, .bool false, .int .i64 0, .int .i64 0, .string ⟨#[]⟩, .slice none 0 0, .int .i64 1, .bool true, .int .i64 0, .int .i64 0, .string ⟨#[]⟩, .slice none 0 0, .int .i64 0, .bool false, .int .i64 0, .int .i64 0, .string ⟨#[]⟩, .slice none 0 0] 32)).cell? ⟨w.heap.size, 2, none⟩ = some (.int .i64 0) ∧ (w.alloc (Obj.cells #[.int .i64 1, .bool false, .int .i64 0, .int .i64 0, .string ⟨#[]⟩, .slice none 0 0, .int .i64 1, .bool true, .int .i64 0, .int .i64 0, .string ⟨#[]⟩, .slice none 0 0, .int .i64 0, .bool false, .int .i64 0, .int .i64 0, .string ⟨#[]⟩, .slice none 0 0] 32)).cell? ⟨w.heap.size, 3, none⟩ = some (.int .i64 0) ∧ (w.alloc (Obj.cells #[.int .i64 1, .bool false, .int .i64 0, .int .i64 0, .string ⟨#[]⟩, .slice none 0 0, .int .i64 1, .bool true, .int .i64 0, .int .i64 0, .string ⟨#[]⟩, .slice none 0 0, .int .i64 0, .bool false, .int .i64 0, .int .i64 0, .string ⟨#[]⟩, .slice none 0 0] 32)).cell? ⟨w.heap.size, 4, none⟩ = some (.string ⟨#[]⟩) ∧ (w.alloc (Obj.cells #[.int .i64 1, .bool false, .int .i64 0, .int .i64 0, .string ⟨#[]⟩, .slice none 0 0, .int .i64 1, .bool true, .int .i64 0, .int .i64 0, .string ⟨#[]⟩, .slice none 0 0, .int .i64 0, .bool false, .int .i64 0, .int .i64 0, .string ⟨#[]⟩, .slice none 0 0] 32)).cell? ⟨w.heap.size, 5, none⟩ = some (.slice none 0 0) ∧ (w.alloc (Obj.cells #[.int .i64 1, .bool false, .int .i64 0, .int .i64 0, .string ⟨#[]⟩, .slice none 0 0, .int .i64 1, .bool true, .int .i64 0, .int .i64 0, .string ⟨#[]⟩, .slice none 0 0, .int .i64 0, .bool false, .int .i64 0, .int .i64 0, .string ⟨#[]⟩, .slice none 0 0] 32)).cell? ⟨w.heap.size, 6, none⟩ = some (.int .i64 1) ∧ (w.alloc (Obj.cells #[.int .i64 1, .bool false, .int .i64 0, .int .i64 0, .string ⟨#[]⟩, .slice none 0 0, .int .i64 1, .bool true, .int .i64 0, .int .i64 0, .string ⟨#[]⟩, .slice none 0 0, .int .i64 0, .bool false, .int .i64 0, .int .i64 0, .string ⟨#[]⟩, .slice none 0 0] 32)).cell? ⟨w.heap.size, 7, none⟩ = some (.bool true) ∧ (w.alloc (Obj.cells #[.int .i64 1, .bool false, .int .i64 0, .int .i64 0, .string ⟨#[]⟩, .slice none 0 0, .int .i64 1, .bool true, .int .i64 0, .int .i64 0, .string ⟨#[]⟩, .slice none 0 0, .int .i64 0, .bool false, .int .i64 0, .int .i64 0, .string ⟨#[]⟩, .slice none 0 0] 32)).cell? ⟨w.heap.size, 8, none⟩ = some (.int .i64 0) ∧ (w.alloc (Obj.cells #[.int .i64 1, .bool false, .int .i64 0, .int .i64 0, .string ⟨#[]⟩, .slice none 0 0, .int .i64 1, .bool true, .int .i64 0, .int .i64 0, .string ⟨#[]⟩, .slice none 0 0, .int .i64 0, .bool false, .int .i64 0, .int .i64 0, .string ⟨#[]⟩, .slice none 0 0] 32)).cell? ⟨w.heap.size, 9, none⟩ = some (.int .i64 0) ∧ (w.alloc (Obj.cells #[.int .i64 1, .bool false, .int .i64 0, .int .i64 0, .string ⟨#[]⟩, .slice none 0 0, .int .i64 1, .bool true, .int .i64 0, .int .i64 0, .string ⟨#[]⟩, .slice none 0 0, .int .i64 0, .bool false, .int .i64 0, .int .i64 0, .string ⟨#[]⟩, .slice none 0 0] 32)).cell? ⟨w.heap.size, 10, none⟩ = some (.string ⟨#[]⟩) ∧ (w.alloc (Obj.cells #[.int .i64 1, .bool false, .int .i64 0, .int .i64 0, .string ⟨#[]⟩, .slice none 0 0, .int .i64 1, .bool true, .int .i64 0, .int .i64 0, .string ⟨#[]⟩, .slice none 0 0, .int .i64 0, .bool false, .int .i64 0, .int .i64 0, .string ⟨#[]⟩, .slice none 0 0] 32)).cell? ⟨w.heap.size, 11, none⟩ = some (.slice none 0 0) ∧ (w.alloc (Obj.cells #[.int .i64 1, .bool false, .int .i64 0, .int .i64 0, .string ⟨#[]⟩, .slice none 0 0, .int .i64 1, .bool true, .int .i64 0, .int .i64 0, .string ⟨#[]⟩, .slice none 0 0, .int .i64 0, .bool false, .int .i64 0, .int .i64 0, .string ⟨#[]⟩, .slice none 0 0] 32)).cell? ⟨w.heap.size, 12, none⟩ = some (.int .i64 0) ∧ (w.alloc (Obj.cells #[.int .i64 1, .bool false, .int .i64 0, .int .i64 0, .string ⟨#[]⟩, .slice none 0 0, .int .i64 1, .bool true, .int .i64 0, .int .i64 0, .string ⟨#[]⟩, .slice none 0 0, .int .i64 0, .bool false, .int .i64 0, .int .i64 0, .string ⟨#[]⟩, .slice none 0 0] 32)).cell? ⟨w.heap.size, 13, none⟩ = some (.bool false) ∧ (w.alloc (Obj.cells #[.int .i64 1, .bool false, .int .i64 0, .int .i64 0, .string ⟨#[]⟩, .slice none 0 0, .int .i64 1, .bool true, .int .i64 0, .int .i64 0, .string ⟨#[]⟩, .slice none 0 0, .int .i64 0, .bool false, .int .i64 0, .int .i64 0, .string ⟨#[]⟩, .slice none 0 0] 32)).cell? ⟨w.heap.size, 14, none⟩ = some (.int .i64 0) ∧ (w.alloc (Obj.cells #[.int .i64 1, .bool false, .int .i64 0, .int .i64 0, .string ⟨#[]⟩, .slice none 0 0, .int .i64 1, .bool true, .int .i64 0, .int .i64 0, .string ⟨#[]⟩, .slice none 0 0, .int .i64 0, .bool false, .int .i64 0, .int .i64 0, .string ⟨#[]⟩, .slice none 0 0] 32)).cell? ⟨w.heap.size, 15, none⟩ = some (.int .i64 0) ∧ (w.alloc (Obj.cells #[.int .i64 1, .bool false, .int .i64 0, .int .i64 0, .string ⟨#[]⟩, .slice none 0 0, .int .i64 1, .bool true, .int .i64 0, .int .i64 0, .string ⟨#[]⟩, .slice none 0 0, .int .i64 0, .bool false, .int .i64 0, .int .i64 0, .string ⟨#[]⟩, .slice none 0 0] 32)).cell? ⟨w.heap.size, 16, none⟩ = some (.string ⟨#[]⟩) ∧ (w.alloc (Obj.cells #[.int .i64 1, .bool false, .int .i64 0, .int .i64 0, .string ⟨#[]⟩, .slice none 0 0, .int .i64 1, .bool true, .int .i64 0, .int .i64 0, .string ⟨#[]⟩, .slice none 0 0, .int .i64 0, .bool false, .int .i64 0, .int .i64 0, .string ⟨#[]⟩, .slice none 0 0] 32)).cell? ⟨w.heap.size, 17, none⟩ = some (.slice none 0 0) := ⟨by go_simp, by go_simp, by go_simp, by go_simp, by go_simp, by go_simp, by go_simp, by go_simp, by go_simp, by go_simp, by go_simp, by go_simp, by go_simp, by go_simp, by go_simp, by go_simp, by go_simp, by go_simp⟩
theorem th_ev0_00 : evT [([97], booV false), ([98], booV false)] (parseT thL0).1 = (booV false, 0) := by kernel_rfl
theorem th_ev1_00 : evT [([97], booV false), ([98], booV false)] (parseT thL1).1 = (booV false, 0) := by kernel_rfl
theorem th_ev2_00 : evT [([97], booV false), ([98], booV false)] (parseT thL2).1 = (booV true, 0) := by kernel_rfl
theorem th_ev0_01 : evT [([97], booV false), ([98], booV true)] (parseT thL0).1 = (booV false, 0) := by kernel_rfl
theorem th_ev1_01 : evT [([97], booV false), ([98], booV true)] (parseT thL1).1 = (booV true, 0) := by kernel_rfl
theorem th_ev2_01 : evT [([97], booV false), ([98], booV true)] (parseT thL2).1 = (booV true, 0) := by kernel_rfl
theorem th_ev0_02 : evT [([97], booV false), ([98], nilV)] (parseT thL0).1 = (booV false, 0) := by kernel_rfl
theorem th_ev1_02 : evT [([97], booV false), ([98], nilV)] (parseT thL1).1 = (nilV, 0) := by kernel_rfl
theorem th_ev2_02 : evT [([97], booV false), ([98], nilV)] (parseT thL2).1 = (booV true, 0) := by kernel_rfl
theorem th_ev0_10 : evT [([97], booV true), ([98], booV false)] (parseT thL0).1 = (booV false, 0) := by kernel_rfl
theorem th_ev1_10 : evT [([97], booV true), ([98], booV false)] (parseT thL1).1 = (booV true, 0) := by kernel_rfl
theorem th_ev2_10 : evT [([97], booV true), ([98], booV false)] (parseT thL2).1 = (booV false, 0) := by kernel_rfl
theorem th_ev0_11 : evT [([97], booV true), ([98], booV true)] (parseT thL0).1 = (booV true, 0) := by kernel_rfl
theorem th_ev1_11 : evT [([97], booV true), ([98], booV true)] (parseT thL1).1 = (booV true, 0) := by kernel_rfl
theorem th_ev2_11 : evT [([97], booV true), ([98], booV true)] (parseT thL2).1 = (booV false, 0) := by kernel_rfl
theorem th_ev0_12 : evT [([97], booV true), ([98], nilV)] (parseT thL0).1 = (nilV, 0) := by kernel_rfl
theorem th_ev1_12 : evT [([97], booV true), ([98], nilV)] (parseT thL1).1 = (booV true, 0) := by kernel_rfl
theorem th_ev2_12 : evT [([97], booV true), ([98], nilV)] (parseT thL2).1 = (booV false, 0) := by kernel_rfl
theorem th_ev0_20 : evT [([97], nilV), ([98], booV false)] (parseT thL0).1 = (booV false, 0) := by kernel_rfl
theorem th_ev1_20 : evT [([97], nilV), ([98], booV false)] (parseT thL1).1 = (nilV, 0) := by kernel_rfl
theorem th_ev2_20 : evT [([97], nilV), ([98], booV false)] (parseT thL2).1 = (nilV, 0) := by kernel_rfl
theorem th_ev0_21 : evT [([97], nilV), ([98], booV true)] (parseT thL0).1 = (nilV, 0) := by kernel_rfl
theorem th_ev1_21 : evT [([97], nilV), ([98], booV true)] (parseT thL1).1 = (booV true, 0) := by kernel_rfl
theorem th_ev2_21 : evT [([97], nilV), ([98], booV true)] (parseT thL2).1 = (nilV, 0) := by kernel_rfl
theorem th_ev0_22 : evT [([97], nilV), ([98], nilV)] (parseT thL0).1 = (nilV, 0) := by kernel_rfl
theorem th_ev1_22 : evT [([97], nilV), ([98], nilV)] (parseT thL1).1 = (nilV, 0) := by kernel_rfl
theorem th_ev2_22 : evT [([97], nilV), ([98], nilV)] (parseT thL2).1 = (nilV, 0) := by kernel_rfl
end
end Go.Proofs.YtfdimdjmnfdecaaGreat

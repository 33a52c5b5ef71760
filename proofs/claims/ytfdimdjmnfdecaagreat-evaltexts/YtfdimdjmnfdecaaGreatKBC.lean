/- QAll ETold PSma RAdd RCmp RArith RDecEq: laid together. -/
import Derived.Test.YtfdimdjmnfdecaaGreatKBB
import Derived.Test.YtfdimdjmnfdecaaGreatKAP
import Derived.Deep.RegionHeld3
import Derived.Deep.DrawnRows
import Derived.Deep.QuietTactic
import Derived.BigQuiet
set_option linter.unusedVariables false
set_option linter.unusedSimpArgs false
set_option maxHeartbeats 8000000
namespace Go.Proofs.YtfdimdjmnfdecaaGreat
open Go.RowKit
section
variable {b : Nat} {a : Option Addr} {cap : Nat} {ts : List Tk} {en : Int}
theorem qatom_any (d : Nat) (e1 : Nat → RX) (hp : QPartOf b a cap ts en 72 (d + 1) e1) (hts : GoodTs ts) (h9 : ts.length ≤ 900) (hd : d ≤ 8) : QPartOf b a cap ts en 154 d (atomP ts e1) := by
 intro w k R
 by_cases hk : k < ts.length
 ·have hg := hts.2 k hk
  have hA := tokAt_in hk
  obtain ⟨tk, tt, tp, hTK⟩ : ∃ tk tt tp, ts[k] = (tk, tt, tp) := ⟨_, _, _, rfl⟩
  rw [hTK] at hA hg
  obtain ⟨g1, g2, g3⟩ := hg
  dsimp only at g1 g2 g3
  by_cases h2 : tk = 2
  ·subst h2
   rw [atom_num hk (by rw [hA]), hA]
   exact qatom_num d e1 hp hts h9 hd w k R hk tt tp hTK g1
  by_cases h3 : tk = 3
  ·subst h3
   rw [atom_text hk (by rw [hA]), hA]
   exact qatom_text d e1 hp hts h9 hd w k R hk tt tp hTK g1
  have e2 : ((tk : Int) == 2) = false := by rw [beq_eq_false_iff_ne]; omega
  have e3 : ((tk : Int) == 3) = false := by rw [beq_eq_false_iff_ne]; omega
  by_cases h1 : tk = 1
  ·subst h1
   cases hw : wordB tt with
   | false =>
    rw [atom_name hk (by rw [hA]) (by rw [hA]; exact hw), hA]
    exact qatom_name d e1 hp hts h9 hd w k R hk tt tp hTK g1 hw
   | true =>
    rw [atom_sign (by rw [hA]; simp) (by rw [hA]; simp) (by rw [hA]; exact fun _ => hw)]
    cases hF : fnd ts k six with
    | none => exact qsign_word_none d e1 hp hts h9 hd w k R hk tt tp hTK g1 hw hF
    | some m =>
     have hm := (fnd_lt hF).2
     simp only [six, List.mem_cons, List.not_mem_nil, or_false] at hm
     rcases hm with rfl | rfl | rfl | rfl | rfl | rfl
     ·exact qsign_word_true d e1 hp hts h9 hd w k R hk tt tp hTK g1 hw hF
     ·exact qsign_word_false d e1 hp hts h9 hd w k R hk tt tp hTK g1 hw hF
     ·exact qsign_word_null d e1 hp hts h9 hd w k R hk tt tp hTK g1 hw hF
     ·exact qsign_word_brack d e1 hp hts h9 hd w k R hk tt tp hTK g1 hw hF
     ·exact qsign_word_list d e1 hp hts h9 hd w k R hk tt tp hTK g1 hw hF
     ·exact qsign_word_if d e1 hp hts h9 hd w k R hk tt tp hTK g1 hw hF
  ·have e1' : ((tk : Int) == 1) = false := by rw [beq_eq_false_iff_ne]; omega
   rw [atom_sign (by rw [hA]; exact h2) (by rw [hA]; exact h3) (by rw [hA]; exact fun h => absurd h h1)]
   cases hF : fnd ts k six with
   | none => exact qsign_tok_none d e1 hp hts h9 hd w k R hk tk tt tp hTK g1 e2 e3 e1' hF
   | some m =>
    have hm := (fnd_lt hF).2
    simp only [six, List.mem_cons, List.not_mem_nil, or_false] at hm
    rcases hm with rfl | rfl | rfl | rfl | rfl | rfl
    ·exact qsign_tok_true d e1 hp hts h9 hd w k R hk tk tt tp hTK g1 e2 e3 e1' hF
    ·exact qsign_tok_false d e1 hp hts h9 hd w k R hk tk tt tp hTK g1 e2 e3 e1' hF
    ·exact qsign_tok_null d e1 hp hts h9 hd w k R hk tk tt tp hTK g1 e2 e3 e1' hF
    ·exact qsign_tok_brack d e1 hp hts h9 hd w k R hk tk tt tp hTK g1 e2 e3 e1' hF
    ·exact qsign_tok_list d e1 hp hts h9 hd w k R hk tk tt tp hTK g1 e2 e3 e1' hF
    ·exact qsign_tok_if d e1 hp hts h9 hd w k R hk tk tt tp hTK g1 e2 e3 e1' hF
 ·rw [atom_sign (by rw [tokAt_end (by omega)]; decide) (by rw [tokAt_end (by omega)]; decide) (by rw [tokAt_end (by omega)]; decide), sign_end (by omega)]
  exact qatom_end d hts w k R (by omega)
theorem qreader_all (hts : GoodTs ts) (h9 : ts.length ≤ 900) : ∀ f d, d + f = 9 → QPartOf b a cap ts en 153 d (UE ts f).1 ∧ QPartOf b a cap ts en 72 d (UE ts f).2 := by
 intro f
 induction f with
 | zero => intro d h; exact ⟨qunary_deep d hts (by omega), qexpr_deep d hts (by omega)⟩
 | succ f ih =>
  intro d h
  obtain ⟨hu, he⟩ := ih (d + 1) (by omega)
  have hu' := qunary_any d _ _ hu (qatom_any d _ he hts h9 (by omega)) hts (by omega)
  exact ⟨hu', qexpr_any d _ (qand_any d _ (qcmp_any d _ _ (qadd_any d _ (qmul_any d _ hu' hts) hts) he hts (by omega)) hts) hts (by omega)⟩
theorem Qd.new {w : World} {k : Nat} (h : Row w a ts) (hk : k ≤ ts.length) : Qd w.heap.size a cap ts en (w.alloc (.cells #[.slice a ts.length cap, .int .i64 (k : Int), .int .i64 en, .int .i64 0, .int .i64 0] 103)) k 0 0 := by
 refine ⟨by simp, hk, by go_simp, by go_simp, by go_simp, by go_simp, by go_simp, fun o => by go_simp, fun i hi => ?_⟩
 obtain ⟨g, h1, h2⟩ := h i hi
 exact ⟨g, h1, by have := h2.1; omega, h2.below (below1 _ _)⟩
theorem qtake_any (hts : GoodTs ts) (h9 : ts.length ≤ 900) (w : World) (k : Nat) (en : Int) (hr : Row w a ts) (hk : k ≤ ts.length) :
  Calls Tryz.prog 38 #[.slice a ts.length cap, .int .i64 (k : Int), .int .i64 en] w fun e w' => TakeRes w.heap.size (takeT ts k en) e w' ∧ (∀ c k', (UE ts 9).2 k = .er c k' → (c != 0) = true) ∧ Below w.heap.size w w' := by
 have hn := hts.1
 have HT := hide hts
 have HRow := hide hr
 have HR := hide (takeT.eq_1 ts k en)
 generalize takeT ts k en = RES at *
 clear hts hr
 have z0 := hide (ZB.new w 26)
 go_enter Tryz.func38, Tryz.ntmps38
 go_wp2_with fail
 have RN := Qd.new (cap := cap) (en := en) ((unhide HRow).below (below1 w (zO 26))) hk
 have eB : (w.alloc (zO 26)).heap.size = w.heap.size + 1 := by simp
 rw [eB] at RN
 refine ((qreader_all (unhide HT) h9 9 0 rfl).2 _ k RN).mono ?_
 have M0 := below2 w (zO 26) (.cells #[.slice a ts.length cap, .int .i64 (k : Int), .int .i64 en, .int .i64 0, .int .i64 0] 103)
 cases hE : (UE ts 9).2 k with
 | er c1 k1 =>
  rw [hE] at HR
  have HE0 := hide hE
  clear hE
  rintro e w1 ⟨n1, hc1, k2, hk2, R1, T, rfl, hin⟩
  have Z1 := ((unhide z0).alloc _).mv n1 (by omega)
  have z1 : w.heap.size + 2 ≤ w1.heap.size := by have := n1.size; simpa using this
  have b1 := n1.toBelow M0 (by omega)
  clear n1 z0
  obtain ⟨ek, eb, em, es, et, elo, ehi, ea, el, ec, ekid, rfl⟩ := hin.form
  clear hin
  have HR2 := hide (show RES = (zX, (k : Int), posT ts k1 en, c1) from unhide HR)
  clear HR
  generalize posT ts k1 en = pp at *
  obtain ⟨r1, r2, r3, r4, r5, r6, r7, r8, -⟩ := R1
  obtain ⟨y0, y1, y2, y3, y4, y5, y6, y7, y8, y9⟩ := Z1
  dsimp only [XT.val]
  go_wp2_with fail
  go_region
  go_wp2_with fail
  refine bodyPost_ret (v := .tuple #[.agg #[.int .i64 0, .bool false, .int .i64 0, .int .i64 0, .string ⟨#[]⟩, .bool false, .bool false, .slice none 0 0], .int .i64 (k : Int), .int .i64 pp, .int .i64 c1]) zR38y0y1y2y3y4y5y6y7y8 rfl ?_
  rw [unhide HR2]
  exact ⟨⟨zX, rfl, zX_in _ _, zX_bare⟩, fun c k' h => by rw [unhide HE0] at h; cases h; exact hc1, zBL⟩
 | ok x1 k1 =>
  rw [hE] at HR
  have HE0 := hide hE
  clear hE
  rintro e w1 ⟨n1, hk1, R1, T, rfl, hin, hbr⟩
  have Z1 := ((unhide z0).alloc _).mv n1 (by omega)
  have z1 : w.heap.size + 2 ≤ w1.heap.size := by have := n1.size; simpa using this
  have b1 := n1.toBelow M0 (by omega)
  have HI := hin.weak (Q' := fun g => w.heap.size + 1 ≤ g) (fun g _ hg => by unfold Fr at hg; simp at hg; omega)
  clear n1 z0
  have HR2 := hide (show RES = (x1, (k1 : Int), 0, 0) from unhide HR)
  clear HR
  obtain ⟨ek, eb, em, es, et, elo, ehi, ea, el, ec, ekid, rfl⟩ := hin.form
  clear hin
  obtain ⟨r1, r2, r3, r4, r5, r6, r7, r8, -⟩ := R1
  obtain ⟨y0, y1, y2, y3, y4, y5, y6, y7, y8, y9⟩ := Z1
  dsimp only [XT.val]
  go_wp2_with fail
  go_region
  go_wp2_with fail
  refine bodyPost_ret (v := .tuple #[.agg #[.int .i64 ek, .bool eb, .int .i64 em, .int .i64 es, .string et, .bool elo, .bool ehi, .slice ea el ec], .int .i64 (k1 : Int), .int .i64 0, .int .i64 0]) zR38y0y1y2y3y4y5y6y7y8 rfl ?_
  rw [unhide HR2]
  refine ⟨⟨_, rfl, ?_, hbr⟩, (fun c k' h => by rw [unhide HE0] at h; cases h), zBL⟩
  refine XT.In.weak (Q := fun g => w.heap.size + 1 ≤ g) ?_ (fun g _ hg => by unfold Fr; omega)
  exact zIN
theorem qparse_any (l : List UInt8) (hl : l.length ≤ 1000) (w : World) :
  Calls Tryz.prog 16 #[.string ⟨l.toArray⟩] w fun e w' => ParseRes w.heap.size (parseT l) e w' ∧ Below w.heap.size w w' := by
 have L := hide (rlex_all l (w.alloc (zO 26)) hl)
 have HG := hide (good_lex l hl)
 have h60 := lexT_len l
 have HR := hide (parseT.eq_1 l)
 generalize parseT l = RES at *
 generalize lexT l = LX at *
 obtain ⟨ts, n, e0⟩ := LX
 have z0 := hide (ZB.new w 26)
 go_enter Tryz.func16, Tryz.ntmps16
 go_wp2_with fail
 refine (unhide L).mono ?_
 rintro e w1 ⟨⟨v, rfl, own⟩, b1⟩
 have Z1 := hide ((unhide z0).below b1)
 have z1 : w.heap.size + 1 ≤ w1.heap.size := by have := b1.size; simpa using this
 have B1 := bstep (below1 w _) b1
 clear b1 z0 L
 obtain ⟨a, cap, rfl, row, hrg⟩ := row_of own
 clear own
 dsimp only at HR HG row hrg
 have HRG := hide hrg
 clear hrg
 have hn := (unhide HG).1
 by_cases he0 : e0 = 0
 ·subst he0
  have HR2 := hide (show RES = match (UE ts 9).2 0 with | .er c k' => (zX, posT ts k' n, c) | .ok x k' => if k' < ts.length then (zX, posT ts k' n, 2) else (x, (n : Int), 0) from unhide HR)
  clear HR
  have HRow := hide row
  have TK := hide (qtake_any (cap := cap) (unhide HG) (by have := h60; first | omega | (simp at this; omega)) w1 0 (n : Int) row (Nat.zero_le _))
  have TE := takeT.eq_1 ts 0 (n : Int)
  clear row
  go_wp2_with fail
  refine (unhide TK).mono ?_
  rintro e w2 ⟨⟨T, rfl, hin, hbr⟩, hce, b2⟩
  have Z2 := (unhide Z1).below b2
  have B2 := bstep B1 b2
  have z2 := b2.size
  have HI := hin.weak (Q' := fun g => w.heap.size + 1 ≤ g) (fun g _ hg => by unfold Fr at hg; omega)
  have row2 := (unhide HRow).below b2
  clear b2 Z1 TK HRow
  cases hE : (UE ts 9).2 0 with
  | er c3 k3 =>
   have hc3 := hce c3 k3 hE
   rw [hE] at HR2 TE
   clear hE hce
   rw [TE] at hbr ⊢
   dsimp only at hbr ⊢
   clear TE
   have HR3 := hide (show RES = (zX, posT ts k3 n, c3) from unhide HR2)
   clear HR2
   obtain ⟨ek, eb, em, es, et, elo, ehi, ea, el, ec, ekid, rfl⟩ := hin.form
   clear hin
   obtain ⟨y0, y1, y2, y3, y4, y5, y6, y7, y8, y9⟩ := Z2
   generalize posT ts k3 n = pp at *
   dsimp only [XT.val]
   go_wp2_with fail
   refine bodyPost_ret (v := .tuple #[.agg #[.int .i64 0, .bool false, .int .i64 0, .int .i64 0, .string ⟨#[]⟩, .bool false, .bool false, .slice none 0 0], .int .i64 pp, .int .i64 c3]) zR16y0y1y2y3y4y5y6y7y8 rfl ?_
   rw [unhide HR3]
   exact ⟨⟨zX, rfl, zX_in _ _, zX_bare⟩, zBL⟩
  | ok x3 k3 =>
   rw [hE] at HR2 TE
   clear hE
   rw [TE] at hbr ⊢
   dsimp only at hbr ⊢
   clear TE
   have HR3 := hide (show RES = if k3 < ts.length then (zX, posT ts k3 n, 2) else (x3, (n : Int), 0) from unhide HR2)
   clear HR2
   obtain ⟨ek, eb, em, es, et, elo, ehi, ea, el, ec, ekid, rfl⟩ := hin.form
   clear hin
   obtain ⟨y0, y1, y2, y3, y4, y5, y6, y7, y8, y9⟩ := Z2
   dsimp only [XT.val]
   by_cases hk3 : k3 < ts.length
   ·rw [if_pos hk3] at HR3
    obtain ⟨g, rfl, t0, t1, t2, t3⟩ := row2 k3 hk3
    clear row2
    have hgr : w.heap.size + 1 ≤ g := by have := unhide HRG g 0 none rfl (by omega); simpa using this
    have hgn : g ≠ w.heap.size := by omega
    have hgn' : ¬ w.heap.size = g := by omega
    have HP := hide (show ((ts[k3].2.2 : Nat) : Int) = posT ts k3 n by simp [posT, hk3])
    generalize posT ts k3 n = pp at *
    generalize ts[k3] = tt at *
    obtain ⟨q1, q2, q3⟩ := tt
    dsimp only at t1 t2 t3 HP
    go_wp2_with fail
    go_region
    go_wp2_with fail
    refine bodyPost_ret (v := .tuple #[.agg #[.int .i64 0, .bool false, .int .i64 0, .int .i64 0, .string ⟨#[]⟩, .bool false, .bool false, .slice none 0 0], .int .i64 (q3 : Int), .int .i64 2]) zR16y0y1y2y3y4y5y6y7y8 rfl ?_
    rw [unhide HR3, unhide HP]
    exact ⟨⟨zX, rfl, zX_in _ _, zX_bare⟩, zBL⟩
   ·rw [if_neg hk3] at HR3
    clear row2
    go_wp2_with fail
    refine bodyPost_ret (v := .tuple #[.agg #[.int .i64 ek, .bool eb, .int .i64 em, .int .i64 es, .string et, .bool elo, .bool ehi, .slice ea el ec], .int .i64 (n : Int), .int .i64 0]) zR16y0y1y2y3y4y5y6y7y8 rfl ?_
    rw [unhide HR3]
    refine ⟨⟨_, rfl, ?_, hbr⟩, zBL⟩
    refine XT.In.weak (Q := fun g => w.heap.size + 1 ≤ g) ?_ (fun g _ hg => by unfold Fr; omega)
    exact zIN
 ·have e1 : ((e0 : Int) != 0) = true := by simp; omega
  have HR2 := hide (show RES = (zX, (n : Int), (e0 : Int)) by rw [unhide HR, if_pos he0])
  clear he0 HR row
  obtain ⟨y0, y1, y2, y3, y4, y5, y6, y7, y8, y9⟩ := unhide Z1
  go_wp2_with fail
  refine bodyPost_ret (v := .tuple #[.agg #[.int .i64 0, .bool false, .int .i64 0, .int .i64 0, .string ⟨#[]⟩, .bool false, .bool false, .slice none 0 0], .int .i64 (n : Int), .int .i64 (e0 : Int)]) zR16y0y1y2y3y4y5y6y7y8 rfl ?_
  rw [unhide HR2]
  exact ⟨⟨zX, rfl, zX_in _ _, zX_bare⟩, zBL⟩
end
section
open VT (leaf mkV)
def smaX : XT → Bool
 | .none => true
 | .mk _ _ _ _ t _ _ _ len _ kid => decide (t.size ≤ 1000) && (decide (len ≤ 1000) && (List.range len).all fun i => smaX (kid i))
theorem fit_of_sma (x : XT) : smaX x.bare = true → fitX x := by
 induction x with
 | none => intro _; trivial
 | mk k b m s t lo hi a len cap kid ih =>
  intro h
  unfold XT.bare smaX at h
  simp only [Bool.and_eq_true, decide_eq_true_eq, List.all_eq_true, List.mem_range] at h
  refine ⟨by unfold maxLen; omega, by omega, fun i hi => ih i ?_⟩
  have := h.2.2 i hi
  rw [if_pos hi] at this
  exact this
theorem told_any (l : List UInt8) (hl : l.length ≤ 1000) (X : XT) (n : Int) (hp : parseT l = (X, n, 0)) (hsm : smaX X = true) (es : List (ByteArray × VT)) (a9 : Option Addr) (c9 : Nat) (w : World) (henv : EnvIn w a9 es) (hel : es.length ≤ maxLen) (hok : ∀ e ∈ es, e.2.okB 2 = true) :
  Calls Tryz.prog 18 #[.string ⟨l.toArray⟩, .slice a9 es.length c9] w fun e w' => EvRes w.heap.size (evT (envT es) X) e w' ∧ Below w.heap.size w w' := by
 have b0 := bZ w
 have P := hide (qparse_any l hl (w.alloc (Obj.cells #[.int .i64 0, .bool false, .int .i64 0, .int .i64 0, .string ⟨#[]⟩, .slice none 0 0] 32)))
 rw [hp] at P
 have O0 := Own.new w 32
 have z0 : (w.alloc (Obj.cells #[.int .i64 0, .bool false, .int .i64 0, .int .i64 0, .string ⟨#[]⟩, .slice none 0 0] 32)).heap.size = w.heap.size + 1 := by simp
 have HSM := hide hsm
 have HENV := hide henv
 have HEL := hide hel
 have HOK := hide hok
 clear hp hl hsm henv hel hok
 generalize hR : evT (envT es) X = R
 have HR := hide hR
 clear hR
 go_enter Tryz.func18, Tryz.ntmps18
 go_wp2_with fail
 refine (unhide P).mono ?_
 rintro e w1 ⟨⟨T, rfl, hin, hbr⟩, b1⟩
 dsimp only at hbr ⊢
 obtain ⟨k, b, m, s, t, lo, hi, a, len, cap, kid, rfl⟩ := hin.form
 have O1 := O0.below b1
 have B1 := bstep b0 b1
 have z1 := b1.size
 rw [z0] at z1
 have b2 := below1 w1 (Obj.cells #[.int .i64 k, .bool b, .int .i64 m, .int .i64 s, .string t, .bool lo, .bool hi, .slice a len cap] 26)
 have EV := eval_any (XT.mk k b m s t lo hi a len cap kid) es a9 c9 _ ((hin.weak (Q' := fun _ => True) (fun _ _ _ => trivial)).below b2) (fit_of_sma _ (by rw [hbr]; exact unhide HSM)) ((unhide HENV).below (bstep B1 b2)) (unhide HEL) (unhide HOK)
 rw [← evT_bare, hbr, unhide HR] at EV
 have EVH := hide EV
 have O2 := O1.below b2
 have B2 := bstep B1 b2
 clear EV hin hbr O0 b0 b1 O1 B1 P
 dsimp only [XT.val]
 go_wp2_with fail
 refine (unhide EVH).mono ?_
 rintro e w3 ⟨⟨v, rfl, T, rfl, hT, hTl, hTb⟩, k3⟩
 obtain ⟨kz, bz, mz, sz, tz, az, lz, cz, kidz, rfl⟩ := hT.form
 dsimp only [VT.val]
 have O3 := O2.below k3
 have B3 := bstep B2 k3
 have z3 := k3.size
 simp at z3
 have YI := hide hT
 have YL := hide hTl
 have YB := hide hTb
 clear k3 O2 B2 b2 hT hTl hTb EVH
 obtain ⟨u0, t0, t1, t2, t3, t4, t5, f0, f1, f2, f3, f4, f5⟩ := Own.fl O3
 go_wp2_with fail
 refine bodyPost_ret (v := .tuple #[.agg #[.int .i64 kz, .bool bz, .int .i64 mz, .int .i64 sz, .string tz, .slice az lz cz], .int .i64 R.2]) (by simp [results, Tryz.results18, go_sem, t0, t1, t2, t3, t4, t5]) rfl ⟨⟨_, rfl, .mk kz bz mz sz tz az lz cz kidz, rfl, ?_, ?_, unhide YB⟩, zBL⟩
 ·exact VT.In.kept (fun bl o _ hq => put_cell w3 w.heap.size 0 _ _ _ _ _ _ (by simp at hq; omega)) _ (unhide YI) (unhide YL)
 ·exact (unhide YL).weak (fun h hh => by simp at hh; omega)
def knT : List UInt8 := [115, 117, 109, 40, 91, 49, 44, 32, 50, 44, 32, 51, 93, 41, 32, 47, 32, 52]
theorem kn_calc : ((parseT knT).2.2 = 0 ∧ smaX (parseT knT).1 = true) ∧ (kdV (evT [] (parseT knT).1).1 = 2 ∧ mOf (evT [] (parseT knT).1).1 = 15 ∧ sOf (evT [] (parseT knT).1).1 = 1 ∧ (evT [] (parseT knT).1).2 = 0) := by decide +kernel
theorem eknown_any (w : World) : Calls Tryz.prog 15 #[] w fun e w' => e = .returned (.bool true) ∧ Below w.heap.size w w' := by
 obtain ⟨⟨h1, h2⟩, h3, h4, h5, h6⟩ := kn_calc
 have TD := hide (told_any knT (by decide) (parseT knT).1 (parseT knT).2.1 (by rw [← h1]) h2 [] none 0 w (fun i hi => absurd hi (Nat.not_lt_zero _)) (Nat.zero_le _) (fun e he => by cases he))
 rw [show envT [] = [] from rfl] at TD
 generalize evT [] (parseT knT).1 = R at *
 obtain ⟨RX, RE⟩ := R
 dsimp only at h3 h4 h5 h6
 subst h6
 clear h1 h2
 unfold knT at TD
 go_enter Tryz.func15, Tryz.ntmps15
 go_wp2_with fail
 refine (unhide TD).mono ?_
 rintro e w1 ⟨⟨v, rfl, T, rfl, hT, hTl, hTb⟩, b1⟩
 obtain ⟨kz, bz, mz, sz, tz, az, lz, cz, kidz, rfl⟩ := hT.form
 dsimp only at hTb
 rw [← hTb] at h3 h4 h5
 have h3 : kz = 2 := h3
 have h4 : mz = 15 := h4
 have h5 : sz = 1 := h5
 subst h3 h4 h5
 clear hT hTl hTb TD
 dsimp only [VT.val]
 go_wp2_with fail
 go_ret
 exact ⟨rfl, bstep b1 (below1 _ _)⟩
end
section
theorem sma_mkX {k : Int} {b : Bool} {m s : Int} {t : ByteArray} {lo hi : Bool} {l : List XT} (ht : t.size ≤ 1000) (hl : l.length ≤ 1000) (h : ∀ x ∈ l, smaX x = true) : smaX (.mkX k b m s t lo hi l) = true := by
 unfold XT.mkX smaX
 simp only [Bool.and_eq_true, decide_eq_true_eq, List.all_eq_true, List.mem_range]
 refine ⟨ht, hl, fun i hi => ?_⟩
 have e : l.getD i .none = l[i] := by simp [hi]
 rw [e]
 exact h _ (List.getElem_mem hi)
theorem strB_size (m : Mk) : (strB m).size = m.length := by unfold strB; exact List.size_toArray
def SX : RX → Prop
 | .ok x _ => smaX x = true
 | .er _ _ => True
def OkP (p : Nat → RX) : Prop := ∀ k, SX (p k)
theorem OkP.of {p : Nat → RX} (h : OkP p) {k k' : Nat} {x : XT} (e : p k = .ok x k') : smaX x = true := by have := h k; rw [e] at this; exact this
theorem fnd_mem {ts : List Tk} {k : Nat} {ms : List Mk} {m : Mk} (h : fnd ts k ms = some m) : m ∈ ms := by
 induction ms with
 | nil => cases h
 | cons a ms ih =>
  unfold fnd at h
  split at h
  ·cases h; simp
  ·exact List.mem_cons_of_mem _ (ih h)
theorem sma_bin {op : Mk} {x y : XT} (ho : op.length ≤ 1000) (hx : smaX x = true) (hy : smaX y = true) : smaX (binX op x y) = true :=
 sma_mkX (by rw [strB_size]; exact ho) (by simp) (by simp [hx, hy])
theorem sma_chain {ts : List Tk} {part : Nat → RX} {ops : List Mk} (hp : OkP part) (ho : ∀ m ∈ ops, m.length ≤ 1000) : ∀ f x k, smaX x = true → SX (chainP ts part ops f x k) := by
 intro f
 induction f with
 | zero => intro x k h; exact h
 | succ f ih =>
  intro x k h
  unfold chainP
  split
  ·exact h
  ·rename_i op hop
   split
   ·trivial
   ·rename_i y k' hy
    exact ih _ _ (sma_bin (ho _ (fnd_mem hop)) h (hp.of hy))
theorem sma_ch {ts : List Tk} {part : Nat → RX} {ops : List Mk} (hp : OkP part) (ho : ∀ m ∈ ops, m.length ≤ 1000) : OkP (chP ts part ops) := by
 intro k
 unfold chP
 split
 ·trivial
 ·rename_i x k' hx
  exact sma_chain hp ho _ _ _ (hp.of hx)
theorem sma_beh {ts : List Tk} {e1 : Nat → RX} (hp : OkP e1) {ms : List Mk} {k k' : Nat} {m : Mk} {x : XT} (h : behP ts e1 ms k = .ok m x k') : smaX x = true := by
 unfold behP at h
 split at h
 ·cases h
 ·split at h
  ·cases h
  ·rename_i hx
   cases h
   exact hp.of hx
theorem sma_in {lo hi : Bool} {x a b : XT} (hx : smaX x = true) (ha : smaX a = true) (hb : smaX b = true) : smaX (inX lo hi x a b) = true :=
 sma_mkX (Nat.zero_le _) (by simp) (by simp [hx, ha, hb])
theorem sma_within {ts : List Tk} {e1 : Nat → RX} (hp : OkP e1) {x : XT} (hx : smaX x = true) (k : Nat) : SX (withinP ts e1 x k) := by
 unfold withinP
 split
 ·trivial
 ·rename_i ha
  split
  ·trivial
  ·rename_i hb
   split
   ·trivial
   ·exact sma_in hx (sma_beh hp ha) (sma_beh hp hb)
theorem rels_len : ∀ m ∈ mRels, m.length ≤ 1000 := by decide
theorem sma_cmp {ts : List Tk} {ad e1 : Nat → RX} (ha : OkP ad) (hp : OkP e1) : OkP (cmpP ts ad e1) := by
 intro k
 unfold cmpP
 split
 ·trivial
 ·rename_i x k1 hx
  split
  ·exact sma_within hp (ha.of hx) _
  ·split
   ·exact ha.of hx
   ·rename_i op hop
    split
    ·trivial
    ·rename_i y k2 hy
     exact sma_bin (rels_len _ (fnd_mem hop)) (ha.of hx) (ha.of hy)
def SLs (n : Nat) : RL → Prop
 | .ok l _ => l.length ≤ n ∧ ∀ x ∈ l, smaX x = true
 | .er _ _ => True
theorem sma_restL {ts : List Tk} {e1 : Nat → RX} (hp : OkP e1) (shut : Mk) : ∀ f acc k, (∀ x ∈ acc, smaX x = true) → SLs (acc.length + f) (restL ts e1 shut f acc k) := by
 intro f
 induction f with
 | zero => intro acc k h; trivial
 | succ f ih =>
  intro acc k h
  unfold restL
  split
  ·trivial
  ·rename_i x k' hx
   have hs : ∀ y ∈ acc ++ [x], smaX y = true := fun y hy => by
    rcases List.mem_append.1 hy with hy | hy
    ·exact h y hy
    ·rw [List.mem_singleton.1 hy]; exact hp.of hx
   split
   ·trivial
   ·split
    ·exact ⟨by simp, hs⟩
    ·have := ih (acc ++ [x]) (k' + 1) hs
     rw [List.length_append, List.length_singleton] at this
     rwa [show acc.length + (f + 1) = acc.length + 1 + f by omega]
theorem sma_rest {ts : List Tk} {e1 : Nat → RX} (hp : OkP e1) (shut : Mk) (k : Nat) : SLs (ts.length + 1) (restP ts e1 shut k) := by
 unfold restP
 split
 ·exact ⟨Nat.zero_le _, fun x hx => by cases hx⟩
 ·have := sma_restL (ts := ts) hp shut (ts.length + 1) [] k (fun x hx => by cases hx)
  simpa using this
theorem sma_choice {ts : List Tk} {e1 : Nat → RX} (hp : OkP e1) (k : Nat) : SX (choiceP ts e1 k) := by
 unfold choiceP
 split
 ·trivial
 ·rename_i ha
  split
  ·trivial
  ·rename_i hb
   split
   ·trivial
   ·rename_i hc
    exact sma_mkX (Nat.zero_le _) (by simp) (by simp [sma_beh hp ha, sma_beh hp hb, sma_beh hp hc])
theorem sma_const (ts : List Tk) (k : Nat) : SX (constP ts k) := by
 unfold constP
 split
 ·exact sma_mkX (Nat.zero_le _) (by simp) (by simp)
 split
 ·exact sma_mkX (Nat.zero_le _) (by simp) (by simp)
 split
 ·exact sma_mkX (Nat.zero_le _) (by simp) (by simp)
 ·trivial
theorem sma_sign {ts : List Tk} {e1 : Nat → RX} (hp : OkP e1) (hn : ts.length + 1 ≤ 1000) (k : Nat) : SX (signP ts e1 k) := by
 unfold signP
 split
 ·unfold listedP
  split
  ·trivial
  ·rename_i l k' hl
   have := sma_rest hp [93] (ts := ts) (k + 1)
   rw [hl] at this
   exact sma_mkX (Nat.zero_le _) (by have := this.1; omega) this.2
 split
 ·unfold brackP
  split
  ·trivial
  ·rename_i x k' hx
   split
   ·exact hp.of hx
   ·trivial
 split
 ·exact sma_choice hp k
 ·exact sma_const ts k
theorem sma_atom {ts : List Tk} {e1 : Nat → RX} (hp : OkP e1) (hn : ts.length + 1 ≤ 1000) (ht : ∀ t ∈ ts, t.2.1.length ≤ 1000) : OkP (atomP ts e1) := by
 intro k
 unfold atomP
 split
 ·trivial
 ·rename_i t hk
  have htt : t.2.1.length ≤ 1000 := ht t (List.mem_of_getElem? hk)
  split
  ·unfold numP
   split
   ·exact sma_mkX (Nat.zero_le _) (by simp) (by simp)
   ·trivial
  split
  ·exact sma_mkX (by rw [strB_size]; exact htt) (by simp) (by simp)
  split
  ·unfold namedP
   split
   ·split
    ·trivial
    ·rename_i l k' hl
     have := sma_rest hp [41] (ts := ts) (k + 1 + 1)
     rw [hl] at this
     exact sma_mkX (by rw [strB_size]; exact htt) (by have := this.1; omega) this.2
   ·exact sma_mkX (by rw [strB_size]; exact htt) (by simp) (by simp)
  ·exact sma_sign hp hn k
theorem sma_unary {ts : List Tk} {u1 e1 : Nat → RX} (hu : OkP u1) (hp : OkP e1) (hn : ts.length + 1 ≤ 1000) (ht : ∀ t ∈ ts, t.2.1.length ≤ 1000) : OkP (unaryP ts u1 e1) := by
 intro k
 unfold unaryP
 split
 ·split
  ·trivial
  ·rename_i x k' hx
   exact sma_mkX (Nat.zero_le _) (by simp) (by simp [hu.of hx])
 ·exact sma_atom hp hn ht k
theorem sma_expr {ts : List Tk} {u e1 : Nat → RX} (hu : OkP u) (hp : OkP e1) : OkP (exprP ts u e1) :=
 sma_ch (sma_ch (sma_cmp (sma_ch (sma_ch hu (by decide)) (by decide)) hp) (by decide)) (by decide)
theorem sma_UE {ts : List Tk} (hn : ts.length + 1 ≤ 1000) (ht : ∀ t ∈ ts, t.2.1.length ≤ 1000) : ∀ f, OkP (UE ts f).1 ∧ OkP (UE ts f).2 := by
 intro f
 induction f with
 | zero =>
  have h0 : OkP (fun k => .er 12 k) := fun k => trivial
  exact ⟨h0, sma_expr (ts := ts) h0 h0⟩
 | succ f ih => exact ⟨sma_unary ih.1 ih.2 hn ht, sma_expr (sma_unary ih.1 ih.2 hn ht) ih.2⟩
theorem sma_parse (l : List UInt8) (hl : l.length ≤ 900) : smaX (parseT l).1 = true := by
 have hg := good_lex l (by omega)
 have hln := lexT_len l
 unfold parseT
 generalize lexT l = LX at *
 obtain ⟨ts, n, e⟩ := LX
 dsimp only at hg hln ⊢
 split
 ·rfl
 split
 ·rfl
 ·rename_i x k hx
  have h := (sma_UE (ts := ts) (by omega) (fun t h => by obtain ⟨i, hi, rfl⟩ := List.getElem_of_mem h; exact (hg.2 i hi).1) 9).2.of hx
  split
  ·rfl
  ·exact h
end
section
attribute [local go_sem ↓] Go.wp_at_zero Go.wp_at_succ
theorem radd_any (m s n t : Int) (w : World) (m1 : -1000000000 ≤ m) (m2 : m ≤ 1000000000) (n1 : -1000000000 ≤ n) (n2 : n ≤ 1000000000) (s1 : 0 ≤ s) (s2 : s ≤ 4) (t1 : 0 ≤ t) (t2 : t ≤ 4) :
  Calls Tryz.prog 90 #[.agg #[.int .i64 m, .int .i64 s], .agg #[.int .i64 n, .int .i64 t]] w fun e w' => e = .returned (.tuple #[.agg #[.int .i64 (fitM (upM m s 4 + upM n t 4) 4), .int .i64 (fitS (upM m s 4 + upM n t 4) 4)], .int .i64 (fitE (upM m s 4 + upM n t 4) 4)]) ∧ Below w.heap.size w w' := by
 have ub1 := upM_bd (m := m) (s := s) (t := 4) m1 m2 (by omega)
 have ub2 := upM_bd (m := n) (s := t) (t := 4) n1 n2 (by omega)
 unfold upM at *
 have hw1 : IntKind.i64.wrap (4 - s) = 4 - s := i64_in (by omega) (by omega)
 have hw2 : IntKind.i64.wrap (4 - t) = 4 - t := i64_in (by omega) (by omega)
 have hw3 : IntKind.i64.wrap (m * p10 (4 - s).toNat) = m * p10 (4 - s).toNat := i64_in (by omega) (by omega)
 have hw4 : IntKind.i64.wrap (n * p10 (4 - t).toNat) = n * p10 (4 - t).toNat := i64_in (by omega) (by omega)
 have hw5 : IntKind.i64.wrap (m * p10 (4 - s).toNat + n * p10 (4 - t).toNat) = m * p10 (4 - s).toNat + n * p10 (4 - t).toNat := i64_in (by omega) (by omega)
 go_enter Tryz.func90, Tryz.ntmps90
 go_wp2_with fail
 have x0 : (((w.alloc (Obj.cells #[.int .i64 m, .int .i64 s] 23)).alloc (Obj.cells #[.int .i64 n, .int .i64 t] 23)).alloc (Obj.cells #[.int .i64 0, .int .i64 0] 23)).cell? ⟨w.heap.size, 0, none⟩ = some (.int .i64 m) := by go_simp
 have x1 : (((w.alloc (Obj.cells #[.int .i64 m, .int .i64 s] 23)).alloc (Obj.cells #[.int .i64 n, .int .i64 t] 23)).alloc (Obj.cells #[.int .i64 0, .int .i64 0] 23)).cell? ⟨w.heap.size, 1, none⟩ = some (.int .i64 s) := by go_simp
 have x2 : (((w.alloc (Obj.cells #[.int .i64 m, .int .i64 s] 23)).alloc (Obj.cells #[.int .i64 n, .int .i64 t] 23)).alloc (Obj.cells #[.int .i64 0, .int .i64 0] 23)).cell? ⟨w.heap.size + 1, 0, none⟩ = some (.int .i64 n) := by go_simp
 have x3 : (((w.alloc (Obj.cells #[.int .i64 m, .int .i64 s] 23)).alloc (Obj.cells #[.int .i64 n, .int .i64 t] 23)).alloc (Obj.cells #[.int .i64 0, .int .i64 0] 23)).cell? ⟨w.heap.size + 1, 1, none⟩ = some (.int .i64 t) := by go_simp
 have x4 : (((w.alloc (Obj.cells #[.int .i64 m, .int .i64 s] 23)).alloc (Obj.cells #[.int .i64 n, .int .i64 t] 23)).alloc (Obj.cells #[.int .i64 0, .int .i64 0] 23)).cell? ⟨w.heap.size + 2, 0, none⟩ = some (.int .i64 0) := by go_simp
 have x5 : (((w.alloc (Obj.cells #[.int .i64 m, .int .i64 s] 23)).alloc (Obj.cells #[.int .i64 n, .int .i64 t] 23)).alloc (Obj.cells #[.int .i64 0, .int .i64 0] 23)).cell? ⟨w.heap.size + 2, 1, none⟩ = some (.int .i64 0) := by go_simp
 have x6 : (((w.alloc (Obj.cells #[.int .i64 m, .int .i64 s] 23)).alloc (Obj.cells #[.int .i64 n, .int .i64 t] 23)).alloc (Obj.cells #[.int .i64 0, .int .i64 0] 23)).frozen? ⟨w.heap.size + 2, 0, none⟩ = false := by go_simp
 have x7 : (((w.alloc (Obj.cells #[.int .i64 m, .int .i64 s] 23)).alloc (Obj.cells #[.int .i64 n, .int .i64 t] 23)).alloc (Obj.cells #[.int .i64 0, .int .i64 0] 23)).frozen? ⟨w.heap.size + 2, 1, none⟩ = false := by go_simp
 have y0 : Below w.heap.size w (((w.alloc (Obj.cells #[.int .i64 m, .int .i64 s] 23)).alloc (Obj.cells #[.int .i64 n, .int .i64 t] 23)).alloc (Obj.cells #[.int .i64 0, .int .i64 0] 23)) := below3 w _ _ _
 have y1 : w.heap.size + 2 < (((w.alloc (Obj.cells #[.int .i64 m, .int .i64 s] 23)).alloc (Obj.cells #[.int .i64 n, .int .i64 t] 23)).alloc (Obj.cells #[.int .i64 0, .int .i64 0] 23)).heap.size := by simp
 generalize (((w.alloc (Obj.cells #[.int .i64 m, .int .i64 s] 23)).alloc (Obj.cells #[.int .i64 n, .int .i64 t] 23)).alloc (Obj.cells #[.int .i64 0, .int .i64 0] 23)) = V at *
 generalize hB : w.heap.size = B at *
 have HB := hide hB
 clear hB
 have S0 : Hid (Below B w V.drew ∧ B + 2 < V.drew.heap.size ∧ V.drew.cell? ⟨B, 0, none⟩ = some (.int .i64 m) ∧ V.drew.cell? ⟨B, 1, none⟩ = some (.int .i64 s) ∧ V.drew.cell? ⟨B + 1, 0, none⟩ = some (.int .i64 n) ∧ V.drew.cell? ⟨B + 1, 1, none⟩ = some (.int .i64 t)) := ⟨y0.drew, y1, x0, x1, x2, x3⟩
 have SK : Hid (∀ x w', (Below B w x ∧ B + 2 < x.heap.size ∧ x.cell? ⟨B, 0, none⟩ = some (.int .i64 m) ∧ x.cell? ⟨B, 1, none⟩ = some (.int .i64 s) ∧ x.cell? ⟨B + 1, 0, none⟩ = some (.int .i64 n) ∧ x.cell? ⟨B + 1, 1, none⟩ = some (.int .i64 t)) → Below x.heap.size x w' → (Below B w w' ∧ B + 2 < w'.heap.size ∧ w'.cell? ⟨B, 0, none⟩ = some (.int .i64 m) ∧ w'.cell? ⟨B, 1, none⟩ = some (.int .i64 s) ∧ w'.cell? ⟨B + 1, 0, none⟩ = some (.int .i64 n) ∧ w'.cell? ⟨B + 1, 1, none⟩ = some (.int .i64 t))) := by
  rintro x w' ⟨h1, h2, h3, h4, h5, h6⟩ k
  exact ⟨h1.trans (k.mono (by omega)), Nat.lt_of_lt_of_le h2 k.size, kcell k (by omega) h3, kcell k (by omega) h4, kcell k (by omega) h5, kcell k (by omega) h6⟩
 have SS : Hid (∀ x u v, (Below B w x ∧ B + 2 < x.heap.size ∧ x.cell? ⟨B, 0, none⟩ = some (.int .i64 m) ∧ x.cell? ⟨B, 1, none⟩ = some (.int .i64 s) ∧ x.cell? ⟨B + 1, 0, none⟩ = some (.int .i64 n) ∧ x.cell? ⟨B + 1, 1, none⟩ = some (.int .i64 t)) → (Below B w ((x.setCell ⟨B + 1 + 1, 0, none⟩ u).setCell ⟨B + 1 + 1, 1, none⟩ v) ∧ B + 2 < ((x.setCell ⟨B + 1 + 1, 0, none⟩ u).setCell ⟨B + 1 + 1, 1, none⟩ v).heap.size ∧ ((x.setCell ⟨B + 1 + 1, 0, none⟩ u).setCell ⟨B + 1 + 1, 1, none⟩ v).cell? ⟨B, 0, none⟩ = some (.int .i64 m) ∧ ((x.setCell ⟨B + 1 + 1, 0, none⟩ u).setCell ⟨B + 1 + 1, 1, none⟩ v).cell? ⟨B, 1, none⟩ = some (.int .i64 s) ∧ ((x.setCell ⟨B + 1 + 1, 0, none⟩ u).setCell ⟨B + 1 + 1, 1, none⟩ v).cell? ⟨B + 1, 0, none⟩ = some (.int .i64 n) ∧ ((x.setCell ⟨B + 1 + 1, 0, none⟩ u).setCell ⟨B + 1 + 1, 1, none⟩ v).cell? ⟨B + 1, 1, none⟩ = some (.int .i64 t))) := by
  rintro x u v ⟨h1, h2, h3, h4, h5, h6⟩
  exact ⟨(h1.setCell (by simp; omega) _).setCell (by simp; omega) _, by simpa [World.setCell] using h2, by go_simp, by go_simp, by go_simp, by go_simp⟩
 go_region_held3 (fun w' => Below B w w' ∧ B + 2 < w'.heap.size ∧ w'.cell? ⟨B, 0, none⟩ = some (.int .i64 m) ∧ w'.cell? ⟨B, 1, none⟩ = some (.int .i64 s) ∧ w'.cell? ⟨B + 1, 0, none⟩ = some (.int .i64 n) ∧ w'.cell? ⟨B + 1, 1, none⟩ = some (.int .i64 t))
  (first | exact unhide S0 | assumption | exact unhide SK _ _ (by assumption) k | exact unhide SS _ _ _ (by assumption))
  (first | (go_at_call 110; refine (rpower_any _ _ (by omega) (by omega)).mono ?_; rintro e w' ⟨rfl, rfl⟩) | (go_at_call 129; refine (rfit_any _ _ _).mono ?_; rintro e w4 ⟨rfl, k⟩; have r0 : w4.cell? ⟨B + 2, 0, none⟩ = some (.int .i64 0) := kcell k y1 x4; have r1 : w4.cell? ⟨B + 2, 1, none⟩ = some (.int .i64 0) := kcell k y1 x5; have r2 : w4.frozen? ⟨B + 2, 0, none⟩ = false := kfroz k y1 x6; have r3 : w4.frozen? ⟨B + 2, 1, none⟩ = false := kfroz k y1 x7))
 all_goals
  go_wp2
  rw [unhide HB]
  refine bodyPost_ret (v := .tuple #[.agg #[.int .i64 (fitM _ _), .int .i64 (fitS _ _)], .int .i64 (fitE _ _)]) (by simp [results, Tryz.results90, go_sem, r0, r1]) rfl ⟨rfl, ?_⟩
  apply And.left
  assumption
end
section
theorem rcmp_any (m s n t : Int) (w : World) (m1 : -1000000000 ≤ m) (m2 : m ≤ 1000000000) (n1 : -1000000000 ≤ n) (n2 : n ≤ 1000000000) (s1 : 0 ≤ s) (s2 : s ≤ 4) (t1 : 0 ≤ t) (t2 : t ≤ 4) :
  Calls Tryz.prog 77 #[.agg #[.int .i64 m, .int .i64 s], .agg #[.int .i64 n, .int .i64 t]] w fun e w' => e = .returned (.int .i64 (cmpI (upM m s 4) (upM n t 4))) ∧ Below w.heap.size w w' := by
 have ub1 := upM_bd (m := m) (s := s) (t := 4) m1 m2 (by omega)
 have ub2 := upM_bd (m := n) (s := t) (t := 4) n1 n2 (by omega)
 unfold upM at *
 generalize hf : cmpI (m * p10 (4 - s).toNat) (n * p10 (4 - t).toNat) = f
 by_cases c1 : m * p10 (4 - s).toNat < n * p10 (4 - t).toNat
 ·have FIN := hide (show f = -1 by rw [← hf]; exact if_pos c1)
  clear hf
  go_enter Tryz.func77, Tryz.ntmps77
  go_wp2_with fail
  go_quiet ((go_at_call 110; exact Calls.quiet_of_same (rpower_any _ _ (by omega) (by omega))))
  go_wp2
  go_ret
  exact ⟨ret_int (unhide FIN).symm, below_drewN (below2 w _ _) _⟩
 ·by_cases c2 : n * p10 (4 - t).toNat < m * p10 (4 - s).toNat
  ·have FIN := hide (show f = 1 by rw [← hf]; unfold cmpI; rw [if_neg c1, if_pos c2])
   clear hf
   go_enter Tryz.func77, Tryz.ntmps77
   go_wp2_with fail
   go_quiet ((go_at_call 110; exact Calls.quiet_of_same (rpower_any _ _ (by omega) (by omega))))
   go_wp2
   go_ret
   exact ⟨ret_int (unhide FIN).symm, below_drewN (below2 w _ _) _⟩
  ·have FIN := hide (show f = 0 by rw [← hf]; unfold cmpI; rw [if_neg c1, if_neg c2])
   clear hf
   go_enter Tryz.func77, Tryz.ntmps77
   go_wp2_with fail
   go_quiet ((go_at_call 110; exact Calls.quiet_of_same (rpower_any _ _ (by omega) (by omega))))
   go_wp2
   go_ret
   exact ⟨ret_int (unhide FIN).symm, below_drewN (below2 w _ _) _⟩
end
section
theorem rsub_any (m s n t : Int) (w : World) (m1 : -1000000000 ≤ m) (m2 : m ≤ 1000000000) (n1 : -1000000000 ≤ n) (n2 : n ≤ 1000000000) (s1 : 0 ≤ s) (s2 : s ≤ 4) (t1 : 0 ≤ t) (t2 : t ≤ 4) :
  Calls Tryz.prog 91 #[.agg #[.int .i64 m, .int .i64 s], .agg #[.int .i64 n, .int .i64 t]] w fun e w' => e = .returned (.tuple #[.agg #[.int .i64 (fitM (upM m s 4 + upM (-n) t 4) (4)), .int .i64 (fitS (upM m s 4 + upM (-n) t 4) (4))], .int .i64 (fitE (upM m s 4 + upM (-n) t 4) (4))]) ∧ Below w.heap.size w w' := by
 have H := hide (fun w => radd_any m s (-n) t w m1 m2 (by omega) (by omega) s1 s2 t1 t2)
 generalize upM m s 4 + upM (-n) t 4 = x at *
 go_enter Tryz.func91, Tryz.ntmps91
 go_wp2_with fail
 refine (unhide H _).mono ?_
 rintro e w4 ⟨rfl, b4⟩
 obtain ⟨c4, f4⟩ := bcell b4
 have z4 : w.heap.size + 2 < w4.heap.size := by have := b4.size; simp at this; omega
 go_wp2
 refine bodyPost_ret (v := .tuple #[.agg #[.int .i64 (fitM _ _), .int .i64 (fitS _ _)], .int .i64 (fitE _ _)]) (by simp [results, Tryz.results91, go_sem, c4]) rfl ⟨rfl, ?_⟩
 exact ((bstep (below3 w _ _ _) b4).setCell (by simp; omega) _).setCell (by simp; omega) _
theorem rmul_bd {m n : Int} (m1 : -1000000000 ≤ m) (m2 : m ≤ 1000000000) (n1 : -1000000000 ≤ n) (n2 : n ≤ 1000000000) : -1000000000000000000 ≤ m * n ∧ m * n ≤ 1000000000000000000 := by
 by_cases h : 0 ≤ n
 ·have := mul_bd m n 1000000000 1000000000 m1 m2 h n2 (by omega); omega
 ·have := mul_bd m (-n) 1000000000 1000000000 m1 m2 (by omega) (by omega) (by omega)
  rw [Int.mul_neg] at this; omega
theorem rmul_any (m s n t : Int) (w : World) (m1 : -1000000000 ≤ m) (m2 : m ≤ 1000000000) (n1 : -1000000000 ≤ n) (n2 : n ≤ 1000000000) (s1 : 0 ≤ s) (s2 : s ≤ 4) (t1 : 0 ≤ t) (t2 : t ≤ 4) :
  Calls Tryz.prog 92 #[.agg #[.int .i64 m, .int .i64 s], .agg #[.int .i64 n, .int .i64 t]] w fun e w' => e = .returned (.tuple #[.agg #[.int .i64 (fitM (m * n) (s + t)), .int .i64 (fitS (m * n) (s + t))], .int .i64 (fitE (m * n) (s + t))]) ∧ Below w.heap.size w w' := by
 have mb := rmul_bd m1 m2 n1 n2
 go_enter Tryz.func92, Tryz.ntmps92
 go_wp2_with fail
 refine (rfit_any _ _ _).mono ?_
 rintro e w4 ⟨rfl, b4⟩
 obtain ⟨c4, f4⟩ := bcell b4
 have z4 : w.heap.size + 2 < w4.heap.size := by have := b4.size; simp at this; omega
 go_wp2
 refine bodyPost_ret (v := .tuple #[.agg #[.int .i64 (fitM _ _), .int .i64 (fitS _ _)], .int .i64 (fitE _ _)]) (by simp [results, Tryz.results92, go_sem, c4]) rfl ⟨rfl, ?_⟩
 exact ((bstep (below3 w _ _ _) b4).setCell (by simp; omega) _).setCell (by simp; omega) _
def rdivQ (m s n t : Int) : Int := if n < 0 then half (-(m * p10 (t + 4).toNat)) (-(n * p10 s.toNat)) else half (m * p10 (t + 4).toNat) (n * p10 s.toNat)
theorem rdiv_any (m s n t : Int) (w : World) (m1 : -1000000000 ≤ m) (m2 : m ≤ 1000000000) (n1 : -1000000000 ≤ n) (n2 : n ≤ 1000000000) (s1 : 0 ≤ s) (s2 : s ≤ 4) (t1 : 0 ≤ t) (t2 : t ≤ 4) (hn : n ≠ 0) :
  Calls Tryz.prog 93 #[.agg #[.int .i64 m, .int .i64 s], .agg #[.int .i64 n, .int .i64 t]] w fun e w' => e = .returned (.tuple #[.agg #[.int .i64 (fitM (rdivQ m s n t) (4)), .int .i64 (fitS (rdivQ m s n t) (4))], .int .i64 (fitE (rdivQ m s n t) (4))]) ∧ Below w.heap.size w w' := by
 have pb := p10_pos (t + 4).toNat
 have pb2 := p10_bd (n := (t + 4).toNat) (by omega)
 have pc := p10_pos s.toNat
 have pc2 := p10_bd (n := s.toNat) (by omega)
 have ub := mul_bd m (p10 (t + 4).toNat) 1000000000 100000000 m1 m2 (by omega) pb2 (by omega)
 have uc := mul_bd n (p10 s.toNat) 1000000000 100000000 n1 n2 (by omega) pc2 (by omega)
 have hn0 : (n == 0) = false := by simpa using hn
 have dq : rdivQ m s n t = if n < 0 then half (-(m * p10 (t + 4).toNat)) (-(n * p10 s.toNat)) else half (m * p10 (t + 4).toNat) (n * p10 s.toNat) := rfl
 generalize rdivQ m s n t = q at *
 have DQ := hide dq
 clear dq
 by_cases hneg : n < 0
 ·have DQ' := hide ((unhide DQ).trans (if_pos hneg))
  have hp : n * p10 s.toNat < 0 := by
   have := Int.mul_le_mul_of_nonneg_right (show n ≤ -1 by omega) (show 0 ≤ p10 s.toNat by omega)
   omega
  clear DQ hn
  go_enter Tryz.func93, Tryz.ntmps93
  go_wp2_with fail
  go_quiet ((go_at_call 110; exact Calls.quiet_of_same (rpower_any _ _ (by omega) (by omega))))
  go_wp2_with fail
  refine (rhalf_below _ _ _ (by omega) (by omega) (by omega) (by omega)).mono ?_
  rintro e w1 ⟨rfl, k1⟩
  rw [← unhide DQ']
  have b1 := bstep (below_drewN (Below.refl _ _) _) k1
  clear k1
  go_wp2_with fail
  refine (rfit_any _ _ _).mono ?_
  rintro e w4 ⟨rfl, k4⟩
  have b4 := bstep b1 k4
  clear b1 k4
  obtain ⟨c4, f4⟩ := bcell b4
  have z4 : w.heap.size + 2 < w4.heap.size := by have := b4.size; simp at this; omega
  go_wp2
  refine bodyPost_ret (v := .tuple #[.agg #[.int .i64 (fitM _ _), .int .i64 (fitS _ _)], .int .i64 (fitE _ _)]) zR93c4 rfl ⟨rfl, ?_⟩
  exact ((bstep (below3 w _ _ _) b4).setCell (by simp; omega) _).setCell (by simp; omega) _
 ·have DQ' := hide ((unhide DQ).trans (if_neg hneg))
  have hp : 1 ≤ n * p10 s.toNat := by
   have := Int.mul_le_mul_of_nonneg_right (show 1 ≤ n by omega) (show 0 ≤ p10 s.toNat by omega)
   omega
  clear DQ hn
  go_enter Tryz.func93, Tryz.ntmps93
  go_wp2_with fail
  go_quiet ((go_at_call 110; exact Calls.quiet_of_same (rpower_any _ _ (by omega) (by omega))))
  go_wp2_with fail
  refine (rhalf_below _ _ _ (by omega) (by omega) (by omega) (by omega)).mono ?_
  rintro e w1 ⟨rfl, k1⟩
  rw [← unhide DQ']
  have b1 := bstep (below_drewN (Below.refl _ _) _) k1
  clear k1
  go_wp2_with fail
  refine (rfit_any _ _ _).mono ?_
  rintro e w4 ⟨rfl, k4⟩
  have b4 := bstep b1 k4
  clear b1 k4
  obtain ⟨c4, f4⟩ := bcell b4
  have z4 : w.heap.size + 2 < w4.heap.size := by have := b4.size; simp at this; omega
  go_wp2
  refine bodyPost_ret (v := .tuple #[.agg #[.int .i64 (fitM _ _), .int .i64 (fitS _ _)], .int .i64 (fitE _ _)]) zR93c4 rfl ⟨rfl, ?_⟩
  exact ((bstep (below3 w _ _ _) b4).setCell (by simp; omega) _).setCell (by simp; omega) _
theorem rflr_any (m s : Int) (w : World) (m1 : -1000000000 ≤ m) (m2 : m ≤ 1000000000) (s1 : 0 ≤ s) (s2 : s ≤ 4) :
  Calls Tryz.prog 96 #[.agg #[.int .i64 m, .int .i64 s]] w fun e w' => e = .returned (.agg #[.int .i64 (m / p10 s.toNat), .int .i64 0]) ∧ Below w.heap.size w w' := by
 have pb := p10_pos s.toNat
 have pb2 := p10_bd (n := s.toNat) (by omega)
 have ⟨fa, fb⟩ := tdiv_floor m (p10 s.toNat) pb
 have tb := tdiv_bd m (p10 s.toNat) 1000000000 pb (by omega) m1 m2
 generalize hp : p10 s.toNat = p at *
 have HP := hide hp
 clear hp
 by_cases h : m.tmod p < 0
 ·have F := hide (fa h)
  clear fa fb
  go_enter Tryz.func96, Tryz.ntmps96
  go_wp2_with fail
  refine (rpower_any _ _ s1 (by omega)).mono ?_
  rintro e w' ⟨rfl, rfl⟩
  rw [unhide HP]
  go_wp2
  exact bodyPost_ret (v := .agg #[.int .i64 (m.tdiv p - 1), .int .i64 0]) zR96 rfl ⟨by rw [unhide F], below2 w _ _⟩
 ·have F := hide (fb h)
  clear fa fb
  go_enter Tryz.func96, Tryz.ntmps96
  go_wp2_with fail
  refine (rpower_any _ _ s1 (by omega)).mono ?_
  rintro e w' ⟨rfl, rfl⟩
  rw [unhide HP]
  go_wp2
  exact bodyPost_ret (v := .agg #[.int .i64 (m.tdiv p), .int .i64 0]) zR96 rfl ⟨by rw [unhide F], below2 w _ _⟩
theorem rceil_any (m s : Int) (w : World) (m1 : -1000000000 ≤ m) (m2 : m ≤ 1000000000) (s1 : 0 ≤ s) (s2 : s ≤ 4) :
  Calls Tryz.prog 97 #[.agg #[.int .i64 m, .int .i64 s]] w fun e w' => e = .returned (.agg #[.int .i64 (-(-m / p10 s.toNat)), .int .i64 0]) ∧ Below w.heap.size w w' := by
 have pb := p10_pos s.toNat
 have db := div_abs (-m) (p10 s.toNat) 1000000000 pb (by omega) (by omega) (by omega)
 have H := hide (fun w => rflr_any (-m) s w (by omega) (by omega) s1 s2)
 generalize -m / p10 s.toNat = q at *
 go_enter Tryz.func97, Tryz.ntmps97
 go_wp2_with fail
 refine (unhide H _).mono ?_
 rintro e w4 ⟨rfl, b4⟩
 obtain ⟨c4, f4⟩ := bcell b4
 have z4 : w.heap.size + 1 < w4.heap.size := by have := b4.size; simp at this; omega
 have z5 : w.heap.size ≤ w4.heap.size := by omega
 go_wp2
 exact bodyPost_ret (v := .agg #[.int .i64 (-q), .int .i64 0]) (by simp [results, Tryz.results97, go_sem, c4, z4]) rfl ⟨rfl, (((bstep (below2 w _ _) b4).setCell (by simp) _).setCell (by simp) _).alloc (by simp [World.setCell]; omega) _⟩
end
section
theorem radd_eqE (m s n t : Int) (w : World) (ha : isB m s = true) (hb : isB n t = true) :
  Calls Tryz.prog 90 #[.agg #[.int .i64 m, .int .i64 s], .agg #[.int .i64 n, .int .i64 t]] w fun e w' => e = .returned (.tuple #[.agg #[.int .i64 (fitM (upM m s (max s t) + upM n t (max s t)) (max s t)), .int .i64 (fitS (upM m s (max s t) + upM n t (max s t)) (max s t))], .int .i64 (fitE (upM m s (max s t) + upM n t (max s t)) (max s t))]) ∧ Below w.heap.size w w' := by
 have ⟨m1, m2, s1, s2⟩ := isB_bd ha
 have ⟨n1, n2, t1, t2⟩ := isB_bd hb
 have h := radd_any m s n t w m1 m2 n1 n2 s1 s2 t1 t2
 have u1 := upM_bd (m := m) (s := s) (t := 4) m1 m2 (by omega)
 have u2 := upM_bd (m := n) (s := t) (t := 4) n1 n2 (by omega)
 have v1 := upM_bd (m := m) (s := s) (t := max s t) m1 m2 (by omega)
 have v2 := upM_bd (m := n) (s := t) (t := max s t) n1 n2 (by omega)
 have e : upM m s 4 + upM n t 4 = (upM m s (max s t) + upM n t (max s t)) * p10 (4 - max s t).toNat := by
  rw [Int.add_mul, ← up_scale m s (max s t) (by omega) (by omega), ← up_scale n t (max s t) (by omega) (by omega)]
 have f := fit_scale (upM m s (max s t) + upM n t (max s t)) (max s t) (by omega) (by omega) (by omega) (by rw [← e]; omega) (by rw [← e]; omega) (by omega)
 rw [e, f.1, f.2.1, f.2.2] at h
 exact h
theorem rsub_eqE (m s n t : Int) (w : World) (ha : isB m s = true) (hb : isB n t = true) :
  Calls Tryz.prog 91 #[.agg #[.int .i64 m, .int .i64 s], .agg #[.int .i64 n, .int .i64 t]] w fun e w' => e = .returned (.tuple #[.agg #[.int .i64 (fitM (upM m s (max s t) - upM n t (max s t)) (max s t)), .int .i64 (fitS (upM m s (max s t) - upM n t (max s t)) (max s t))], .int .i64 (fitE (upM m s (max s t) - upM n t (max s t)) (max s t))]) ∧ Below w.heap.size w w' := by
 have ⟨m1, m2, s1, s2⟩ := isB_bd ha
 have ⟨n1, n2, t1, t2⟩ := isB_bd hb
 have h := rsub_any m s n t w m1 m2 n1 n2 s1 s2 t1 t2
 have u1 := upM_bd (m := m) (s := s) (t := 4) m1 m2 (by omega)
 have u2 := upM_bd (m := n) (s := t) (t := 4) n1 n2 (by omega)
 have v1 := upM_bd (m := m) (s := s) (t := max s t) m1 m2 (by omega)
 have v2 := upM_bd (m := n) (s := t) (t := max s t) n1 n2 (by omega)
 have e : upM m s 4 + upM (-n) t 4 = (upM m s (max s t) - upM n t (max s t)) * p10 (4 - max s t).toNat := by
  rw [Int.sub_mul, ← up_scale m s (max s t) (by omega) (by omega), ← up_scale n t (max s t) (by omega) (by omega), up_neg]
  omega
 have e2 : upM m s 4 + upM (-n) t 4 = upM m s 4 - upM n t 4 := by rw [up_neg]; omega
 have f := fit_scale (upM m s (max s t) - upM n t (max s t)) (max s t) (by omega) (by omega) (by omega) (by rw [← e, e2]; omega) (by rw [← e, e2]; omega) (by omega)
 rw [e, f.1, f.2.1, f.2.2] at h
 exact h
theorem divQ_eqE (m s n t : Int) (s1 : 0 ≤ s) (s2 : s ≤ 4) (t1 : 0 ≤ t) (t2 : t ≤ 4) : rdivQ m s n t = divQ m s n t := by
 have e : m * p10 (t + 4).toNat = m * p10 (4 + t - s).toNat * p10 s.toNat := by
  rw [Int.mul_assoc, ← p10_add]; congr 2; omega
 unfold rdivQ divQ
 rw [e]
 by_cases h : n < 0
 ·rw [if_pos h, if_pos h, show -(m * p10 (4 + t - s).toNat * p10 s.toNat) = -(m * p10 (4 + t - s).toNat) * p10 s.toNat from (Int.neg_mul _ _).symm, show -(n * p10 s.toNat) = -n * p10 s.toNat from (Int.neg_mul _ _).symm, half_scale _ _ _ (p10_pos _)]
 ·rw [if_neg h, if_neg h, half_scale _ _ _ (p10_pos _)]
end
end Go.Proofs.YtfdimdjmnfdecaaGreat

/- VRLogic QAll ETold EEnv2 ELeaf EvX: laid together. -/
import Derived.Test.YtfdimdjmnfdecaaGreatHZ
import Derived.Test.YtfdimdjmnfdecaaGreatHAB
import Derived.Test.YtfdimdjmnfdecaaGreatHBA
import Derived.Test.YtfdimdjmnfdecaaGreatHBB
import Derived.Test.YtfdimdjmnfdecaaGreatHAP
import Derived.Test.YtfdimdjmnfdecaaGreatHAQ
import Derived.Test.YtfdimdjmnfdecaaGreatHAA
/- The contracts of the document's own three truth values. -/
namespace Go.Proofs.YtfdimdjmnfdecaaGreat
open Go.RowKit


set_option maxHeartbeats 400000 in
theorem rof_any (b : Bool) (w : World) :
  Calls Tryz.prog 44 #[.bool b] w fun e w' => e = .returned (tval 1 b) ∧ Below w.heap.size w w' := by
 go_enter Tryz.func44, Tryz.ntmps44
 go_wp2_with fail
 exact bodyPost_ret (v := tval 1 b) (by simp [results, Tryz.results44, go_sem, tval]) rfl ⟨rfl, below1 _ _⟩


end Go.Proofs.YtfdimdjmnfdecaaGreat

/- The document's reader as a whole; the contracts of its Take and Parse. -/
namespace Go.Proofs.YtfdimdjmnfdecaaGreat
open Go.RowKit
set_option linter.unusedVariables false
set_option linter.unusedSimpArgs false
variable {b : Nat} {a : Option Addr} {cap : Nat} {ts : List Tk} {en : Int}

theorem qatom_any (d : Nat) (e1 : Nat → RX) (hp : QPartOf b a cap ts en 72 (d + 1) e1) (hts : GoodTs ts) (h9 : ts.length ≤ 900) (hd : d ≤ 8) : QPartOf b a cap ts en 154 d (atomP ts e1) := by
 intro w k R
 by_cases hk : k < ts.length
 ·have hg := hts.2 k hk
  have hA := tokAt_in hk
  obtain ⟨tk, tt, tp, hTK⟩ : ∃ tk tt tp, ts[k] = (tk, tt, tp) := ⟨_, _, _, rfl⟩
  rw [hTK] at hA hg
  obtain ⟨g1, g2, g3⟩ := hg
  dsimp only at g1 g2 g3
  by_cases h2 : tk = 2
  ·subst h2
   rw [atom_num hk (by rw [hA]), hA]
   exact qatom_num d e1 hp hts h9 hd w k R hk tt tp hTK g1
  by_cases h3 : tk = 3
  ·subst h3
   rw [atom_text hk (by rw [hA]), hA]
   exact qatom_text d e1 hp hts h9 hd w k R hk tt tp hTK g1
  have e2 : ((tk : Int) == 2) = false := by rw [beq_eq_false_iff_ne]; omega
  have e3 : ((tk : Int) == 3) = false := by rw [beq_eq_false_iff_ne]; omega
  by_cases h1 : tk = 1
  ·subst h1
   cases hw : wordB tt with
   | false =>
    rw [atom_name hk (by rw [hA]) (by rw [hA]; exact hw), hA]
    exact qatom_name d e1 hp hts h9 hd w k R hk tt tp hTK g1 hw
   | true =>
    rw [atom_sign (by rw [hA]; simp) (by rw [hA]; simp) (by rw [hA]; exact fun _ => hw)]
    cases hF : fnd ts k six with
    | none => exact qsign_word_none d e1 hp hts h9 hd w k R hk tt tp hTK g1 hw hF
    | some m =>
     have hm := (fnd_lt hF).2
     simp only [six, List.mem_cons, List.not_mem_nil, or_false] at hm
     rcases hm with rfl | rfl | rfl | rfl | rfl | rfl
     ·exact qsign_word_true d e1 hp hts h9 hd w k R hk tt tp hTK g1 hw hF
     ·exact qsign_word_false d e1 hp hts h9 hd w k R hk tt tp hTK g1 hw hF
     ·exact qsign_word_null d e1 hp hts h9 hd w k R hk tt tp hTK g1 hw hF
     ·exact qsign_word_brack d e1 hp hts h9 hd w k R hk tt tp hTK g1 hw hF
     ·exact qsign_word_list d e1 hp hts h9 hd w k R hk tt tp hTK g1 hw hF
     ·exact qsign_word_if d e1 hp hts h9 hd w k R hk tt tp hTK g1 hw hF
  ·have e1' : ((tk : Int) == 1) = false := by rw [beq_eq_false_iff_ne]; omega
   rw [atom_sign (by rw [hA]; exact h2) (by rw [hA]; exact h3) (by rw [hA]; exact fun h => absurd h h1)]
   cases hF : fnd ts k six with
   | none => exact qsign_tok_none d e1 hp hts h9 hd w k R hk tk tt tp hTK g1 e2 e3 e1' hF
   | some m =>
    have hm := (fnd_lt hF).2
    simp only [six, List.mem_cons, List.not_mem_nil, or_false] at hm
    rcases hm with rfl | rfl | rfl | rfl | rfl | rfl
    ·exact qsign_tok_true d e1 hp hts h9 hd w k R hk tk tt tp hTK g1 e2 e3 e1' hF
    ·exact qsign_tok_false d e1 hp hts h9 hd w k R hk tk tt tp hTK g1 e2 e3 e1' hF
    ·exact qsign_tok_null d e1 hp hts h9 hd w k R hk tk tt tp hTK g1 e2 e3 e1' hF
    ·exact qsign_tok_brack d e1 hp hts h9 hd w k R hk tk tt tp hTK g1 e2 e3 e1' hF
    ·exact qsign_tok_list d e1 hp hts h9 hd w k R hk tk tt tp hTK g1 e2 e3 e1' hF
    ·exact qsign_tok_if d e1 hp hts h9 hd w k R hk tk tt tp hTK g1 e2 e3 e1' hF
 ·rw [atom_sign (by rw [tokAt_end (by omega)]; decide) (by rw [tokAt_end (by omega)]; decide) (by rw [tokAt_end (by omega)]; decide), sign_end (by omega)]
  exact qatom_end d hts w k R (by omega)
theorem qreader_all (hts : GoodTs ts) (h9 : ts.length ≤ 900) : ∀ f d, d + f = 9 → QPartOf b a cap ts en 153 d (UE ts f).1 ∧ QPartOf b a cap ts en 72 d (UE ts f).2 := by
 intro f
 induction f with
 | zero => intro d h; exact ⟨qunary_deep d hts (by omega), qexpr_deep d hts (by omega)⟩
 | succ f ih =>
  intro d h
  obtain ⟨hu, he⟩ := ih (d + 1) (by omega)
  have hu' := qunary_any d _ _ hu (qatom_any d _ he hts h9 (by omega)) hts (by omega)
  exact ⟨hu', qexpr_any d _ (qand_any d _ (qcmp_any d _ _ (qadd_any d _ (qmul_any d _ hu' hts) hts) he hts (by omega)) hts) hts (by omega)⟩
theorem Qd.new {w : World} {k : Nat} (h : Row w a ts) (hk : k ≤ ts.length) : Qd w.heap.size a cap ts en (w.alloc (.cells #[.slice a ts.length cap, .int .i64 (k : Int), .int .i64 en, .int .i64 0, .int .i64 0] 103)) k 0 0 := by
 refine ⟨by simp, hk, by go_simp, by go_simp, by go_simp, by go_simp, by go_simp, fun o => by go_simp, fun i hi => ?_⟩
 obtain ⟨g, h1, h2⟩ := h i hi
 exact ⟨g, h1, by have := h2.1; omega, h2.below (below1 _ _)⟩

set_option maxHeartbeats 4000000 in
theorem qtake_any (hts : GoodTs ts) (h9 : ts.length ≤ 900) (w : World) (k : Nat) (en : Int) (hr : Row w a ts) (hk : k ≤ ts.length) :
  Calls Tryz.prog 38 #[.slice a ts.length cap, .int .i64 (k : Int), .int .i64 en] w fun e w' => TakeRes w.heap.size (takeT ts k en) e w' ∧ (∀ c k', (UE ts 9).2 k = .er c k' → (c != 0) = true) ∧ Below w.heap.size w w' := by
 have hn := hts.1
 have HT := hide hts
 have HRow := hide hr
 have HR := hide (takeT.eq_1 ts k en)
 generalize takeT ts k en = RES at *
 clear hts hr
 have z0 := hide (ZB.new w 26)
 go_enter Tryz.func38, Tryz.ntmps38
 go_wp2_with fail
 have RN := Qd.new (cap := cap) (en := en) ((unhide HRow).below (below1 w (zO 26))) hk
 have eB : (w.alloc (zO 26)).heap.size = w.heap.size + 1 := by simp
 rw [eB] at RN
 refine ((qreader_all (unhide HT) h9 9 0 rfl).2 _ k RN).mono ?_
 have M0 := below2 w (zO 26) (.cells #[.slice a ts.length cap, .int .i64 (k : Int), .int .i64 en, .int .i64 0, .int .i64 0] 103)
 cases hE : (UE ts 9).2 k with
 | er c1 k1 =>
  rw [hE] at HR
  have HE0 := hide hE
  clear hE
  rintro e w1 ⟨n1, hc1, k2, hk2, R1, T, rfl, hin⟩
  have Z1 := ((unhide z0).alloc _).mv n1 (by omega)
  have z1 : w.heap.size + 2 ≤ w1.heap.size := by have := n1.size; simpa using this
  have b1 := n1.toBelow M0 (by omega)
  clear n1 z0
  obtain ⟨ek, eb, em, es, et, elo, ehi, ea, el, ec, ekid, rfl⟩ := hin.form
  clear hin
  have HR2 := hide (show RES = (zX, (k : Int), posT ts k1 en, c1) from unhide HR)
  clear HR
  generalize posT ts k1 en = pp at *
  obtain ⟨r1, r2, r3, r4, r5, r6, r7, r8, -⟩ := R1
  obtain ⟨y0, y1, y2, y3, y4, y5, y6, y7, y8, y9⟩ := Z1
  dsimp only [XT.val]
  go_wp2_with fail
  go_region
  go_wp2_with fail
  refine bodyPost_ret (v := .tuple #[.agg #[.int .i64 0, .bool false, .int .i64 0, .int .i64 0, .string ⟨#[]⟩, .bool false, .bool false, .slice none 0 0], .int .i64 (k : Int), .int .i64 pp, .int .i64 c1]) zR38y0y1y2y3y4y5y6y7y8 rfl ?_
  rw [unhide HR2]
  exact ⟨⟨zX, rfl, zX_in _ _, zX_bare⟩, fun c k' h => by rw [unhide HE0] at h; cases h; exact hc1, zBL⟩
 | ok x1 k1 =>
  rw [hE] at HR
  have HE0 := hide hE
  clear hE
  rintro e w1 ⟨n1, hk1, R1, T, rfl, hin, hbr⟩
  have Z1 := ((unhide z0).alloc _).mv n1 (by omega)
  have z1 : w.heap.size + 2 ≤ w1.heap.size := by have := n1.size; simpa using this
  have b1 := n1.toBelow M0 (by omega)
  have HI := hin.weak (Q' := fun g => w.heap.size + 1 ≤ g) (fun g _ hg => by unfold Fr at hg; simp at hg; omega)
  clear n1 z0
  have HR2 := hide (show RES = (x1, (k1 : Int), 0, 0) from unhide HR)
  clear HR
  obtain ⟨ek, eb, em, es, et, elo, ehi, ea, el, ec, ekid, rfl⟩ := hin.form
  clear hin
  obtain ⟨r1, r2, r3, r4, r5, r6, r7, r8, -⟩ := R1
  obtain ⟨y0, y1, y2, y3, y4, y5, y6, y7, y8, y9⟩ := Z1
  dsimp only [XT.val]
  go_wp2_with fail
  go_region
  go_wp2_with fail
  refine bodyPost_ret (v := .tuple #[.agg #[.int .i64 ek, .bool eb, .int .i64 em, .int .i64 es, .string et, .bool elo, .bool ehi, .slice ea el ec], .int .i64 (k1 : Int), .int .i64 0, .int .i64 0]) zR38y0y1y2y3y4y5y6y7y8 rfl ?_
  rw [unhide HR2]
  refine ⟨⟨_, rfl, ?_, hbr⟩, (fun c k' h => by rw [unhide HE0] at h; cases h), zBL⟩
  refine XT.In.weak (Q := fun g => w.heap.size + 1 ≤ g) ?_ (fun g _ hg => by unfold Fr; omega)
  exact zIN

set_option maxHeartbeats 4000000 in
theorem qparse_any (l : List UInt8) (hl : l.length ≤ 1000) (w : World) :
  Calls Tryz.prog 16 #[.string ⟨l.toArray⟩] w fun e w' => ParseRes w.heap.size (parseT l) e w' ∧ Below w.heap.size w w' := by
 have L := hide (rlex_all l (w.alloc (zO 26)) hl)
 have HG := hide (good_lex l hl)
 have h60 := lexT_len l
 have HR := hide (parseT.eq_1 l)
 generalize parseT l = RES at *
 generalize lexT l = LX at *
 obtain ⟨ts, n, e0⟩ := LX
 have z0 := hide (ZB.new w 26)
 go_enter Tryz.func16, Tryz.ntmps16
 go_wp2_with fail
 refine (unhide L).mono ?_
 rintro e w1 ⟨⟨v, rfl, own⟩, b1⟩
 have Z1 := hide ((unhide z0).below b1)
 have z1 : w.heap.size + 1 ≤ w1.heap.size := by have := b1.size; simpa using this
 have B1 := bstep (below1 w _) b1
 clear b1 z0 L
 obtain ⟨a, cap, rfl, row, hrg⟩ := row_of own
 clear own
 dsimp only at HR HG row hrg
 have HRG := hide hrg
 clear hrg
 have hn := (unhide HG).1
 by_cases he0 : e0 = 0
 ·subst he0
  have HR2 := hide (show RES = match (UE ts 9).2 0 with | .er c k' => (zX, posT ts k' n, c) | .ok x k' => if k' < ts.length then (zX, posT ts k' n, 2) else (x, (n : Int), 0) from unhide HR)
  clear HR
  have HRow := hide row
  have TK := hide (qtake_any (cap := cap) (unhide HG) (by have := h60; first | omega | (simp at this; omega)) w1 0 (n : Int) row (Nat.zero_le _))
  have TE := takeT.eq_1 ts 0 (n : Int)
  clear row
  go_wp2_with fail
  refine (unhide TK).mono ?_
  rintro e w2 ⟨⟨T, rfl, hin, hbr⟩, hce, b2⟩
  have Z2 := (unhide Z1).below b2
  have B2 := bstep B1 b2
  have z2 := b2.size
  have HI := hin.weak (Q' := fun g => w.heap.size + 1 ≤ g) (fun g _ hg => by unfold Fr at hg; omega)
  have row2 := (unhide HRow).below b2
  clear b2 Z1 TK HRow
  cases hE : (UE ts 9).2 0 with
  | er c3 k3 =>
   have hc3 := hce c3 k3 hE
   rw [hE] at HR2 TE
   clear hE hce
   rw [TE] at hbr ⊢
   dsimp only at hbr ⊢
   clear TE
   have HR3 := hide (show RES = (zX, posT ts k3 n, c3) from unhide HR2)
   clear HR2
   obtain ⟨ek, eb, em, es, et, elo, ehi, ea, el, ec, ekid, rfl⟩ := hin.form
   clear hin
   obtain ⟨y0, y1, y2, y3, y4, y5, y6, y7, y8, y9⟩ := Z2
   generalize posT ts k3 n = pp at *
   dsimp only [XT.val]
   go_wp2_with fail
   refine bodyPost_ret (v := .tuple #[.agg #[.int .i64 0, .bool false, .int .i64 0, .int .i64 0, .string ⟨#[]⟩, .bool false, .bool false, .slice none 0 0], .int .i64 pp, .int .i64 c3]) zR16y0y1y2y3y4y5y6y7y8 rfl ?_
   rw [unhide HR3]
   exact ⟨⟨zX, rfl, zX_in _ _, zX_bare⟩, zBL⟩
  | ok x3 k3 =>
   rw [hE] at HR2 TE
   clear hE
   rw [TE] at hbr ⊢
   dsimp only at hbr ⊢
   clear TE
   have HR3 := hide (show RES = if k3 < ts.length then (zX, posT ts k3 n, 2) else (x3, (n : Int), 0) from unhide HR2)
   clear HR2
   obtain ⟨ek, eb, em, es, et, elo, ehi, ea, el, ec, ekid, rfl⟩ := hin.form
   clear hin
   obtain ⟨y0, y1, y2, y3, y4, y5, y6, y7, y8, y9⟩ := Z2
   dsimp only [XT.val]
   by_cases hk3 : k3 < ts.length
   ·rw [if_pos hk3] at HR3
    obtain ⟨g, rfl, t0, t1, t2, t3⟩ := row2 k3 hk3
    clear row2
    have hgr : w.heap.size + 1 ≤ g := by have := unhide HRG g 0 none rfl (by omega); simpa using this
    have hgn : g ≠ w.heap.size := by omega
    have hgn' : ¬ w.heap.size = g := by omega
    have HP := hide (show ((ts[k3].2.2 : Nat) : Int) = posT ts k3 n by simp [posT, hk3])
    generalize posT ts k3 n = pp at *
    generalize ts[k3] = tt at *
    obtain ⟨q1, q2, q3⟩ := tt
    dsimp only at t1 t2 t3 HP
    go_wp2_with fail
    go_region
    go_wp2_with fail
    refine bodyPost_ret (v := .tuple #[.agg #[.int .i64 0, .bool false, .int .i64 0, .int .i64 0, .string ⟨#[]⟩, .bool false, .bool false, .slice none 0 0], .int .i64 (q3 : Int), .int .i64 2]) zR16y0y1y2y3y4y5y6y7y8 rfl ?_
    rw [unhide HR3, unhide HP]
    exact ⟨⟨zX, rfl, zX_in _ _, zX_bare⟩, zBL⟩
   ·rw [if_neg hk3] at HR3
    clear row2
    go_wp2_with fail
    refine bodyPost_ret (v := .tuple #[.agg #[.int .i64 ek, .bool eb, .int .i64 em, .int .i64 es, .string et, .bool elo, .bool ehi, .slice ea el ec], .int .i64 (n : Int), .int .i64 0]) zR16y0y1y2y3y4y5y6y7y8 rfl ?_
    rw [unhide HR3]
    refine ⟨⟨_, rfl, ?_, hbr⟩, zBL⟩
    refine XT.In.weak (Q := fun g => w.heap.size + 1 ≤ g) ?_ (fun g _ hg => by unfold Fr; omega)
    exact zIN
 ·have e1 : ((e0 : Int) != 0) = true := by simp; omega
  have HR2 := hide (show RES = (zX, (n : Int), (e0 : Int)) by rw [unhide HR, if_pos he0])
  clear he0 HR row
  obtain ⟨y0, y1, y2, y3, y4, y5, y6, y7, y8, y9⟩ := unhide Z1
  go_wp2_with fail
  refine bodyPost_ret (v := .tuple #[.agg #[.int .i64 0, .bool false, .int .i64 0, .int .i64 0, .string ⟨#[]⟩, .bool false, .bool false, .slice none 0 0], .int .i64 (n : Int), .int .i64 (e0 : Int)]) zR16y0y1y2y3y4y5y6y7y8 rfl ?_
  rw [unhide HR2]
  exact ⟨⟨zX, rfl, zX_in _ _, zX_bare⟩, zBL⟩
end Go.Proofs.YtfdimdjmnfdecaaGreat

/- The contracts of the laws' own 'told', 'num', 'known'. -/
namespace Go.Proofs.YtfdimdjmnfdecaaGreat
open Go.RowKit
open VT (leaf mkV)
set_option linter.unusedVariables false
set_option linter.unusedSimpArgs false

/- small texts and rows. -/
def smaX : XT → Bool
 | .none => true
 | .mk _ _ _ _ t _ _ _ len _ kid => decide (t.size ≤ 1000) && (decide (len ≤ 1000) && (List.range len).all fun i => smaX (kid i))
theorem fit_of_sma (x : XT) : smaX x.bare = true → fitX x := by
 induction x with
 | none => intro _; trivial
 | mk k b m s t lo hi a len cap kid ih =>
  intro h
  unfold XT.bare smaX at h
  simp only [Bool.and_eq_true, decide_eq_true_eq, List.all_eq_true, List.mem_range] at h
  refine ⟨by unfold maxLen; omega, by omega, fun i hi => ih i ?_⟩
  have := h.2.2 i hi
  rw [if_pos hi] at this
  exact this
set_option maxHeartbeats 4000000 in
theorem told_any (l : List UInt8) (hl : l.length ≤ 1000) (X : XT) (n : Int) (hp : parseT l = (X, n, 0)) (hsm : smaX X = true) (es : List (ByteArray × VT)) (a9 : Option Addr) (c9 : Nat) (w : World) (henv : EnvIn w a9 es) (hel : es.length ≤ maxLen) (hok : ∀ e ∈ es, e.2.okB 2 = true) :
  Calls Tryz.prog 18 #[.string ⟨l.toArray⟩, .slice a9 es.length c9] w fun e w' => EvRes w.heap.size (evT (envT es) X) e w' ∧ Below w.heap.size w w' := by
 have b0 := below1 w (Obj.cells #[.int .i64 0, .bool false, .int .i64 0, .int .i64 0, .string ⟨#[]⟩, .slice none 0 0] 32)
 have P := hide (qparse_any l hl (w.alloc (Obj.cells #[.int .i64 0, .bool false, .int .i64 0, .int .i64 0, .string ⟨#[]⟩, .slice none 0 0] 32)))
 rw [hp] at P
 have O0 := Own.new w 32
 have z0 : (w.alloc (Obj.cells #[.int .i64 0, .bool false, .int .i64 0, .int .i64 0, .string ⟨#[]⟩, .slice none 0 0] 32)).heap.size = w.heap.size + 1 := by simp
 have HSM := hide hsm
 have HENV := hide henv
 have HEL := hide hel
 have HOK := hide hok
 clear hp hl hsm henv hel hok
 generalize hR : evT (envT es) X = R
 have HR := hide hR
 clear hR
 go_enter Tryz.func18, Tryz.ntmps18
 go_wp2_with fail
 refine (unhide P).mono ?_
 rintro e w1 ⟨⟨T, rfl, hin, hbr⟩, b1⟩
 dsimp only at hbr ⊢
 obtain ⟨k, b, m, s, t, lo, hi, a, len, cap, kid, rfl⟩ := hin.form
 have O1 := O0.below b1
 have B1 := bstep b0 b1
 have z1 := b1.size
 rw [z0] at z1
 have b2 := below1 w1 (Obj.cells #[.int .i64 k, .bool b, .int .i64 m, .int .i64 s, .string t, .bool lo, .bool hi, .slice a len cap] 26)
 have EV := eval_any (XT.mk k b m s t lo hi a len cap kid) es a9 c9 _ ((hin.weak (Q' := fun _ => True) (fun _ _ _ => trivial)).below b2) (fit_of_sma _ (by rw [hbr]; exact unhide HSM)) ((unhide HENV).below (bstep B1 b2)) (unhide HEL) (unhide HOK)
 rw [← evT_bare, hbr, unhide HR] at EV
 have EVH := hide EV
 have O2 := O1.below b2
 have B2 := bstep B1 b2
 clear EV hin hbr O0 b0 b1 O1 B1 P
 dsimp only [XT.val]
 go_wp2_with fail
 refine (unhide EVH).mono ?_
 rintro e w3 ⟨⟨v, rfl, T, rfl, hT, hTl, hTb⟩, k3⟩
 obtain ⟨kz, bz, mz, sz, tz, az, lz, cz, kidz, rfl⟩ := hT.form
 dsimp only [VT.val]
 have O3 := O2.below k3
 have B3 := bstep B2 k3
 have z3 := k3.size
 simp at z3
 have YI := hide hT
 have YL := hide hTl
 have YB := hide hTb
 clear k3 O2 B2 b2 hT hTl hTb EVH
 obtain ⟨⟨u0, t0, t1, t2, t3, t4, t5⟩, f0, f1, f2, f3, f4, f5⟩ := id O3
 simp only [Nat.zero_add] at t0 t1 t2 t3 t4 t5
 go_wp2_with fail
 refine bodyPost_ret (v := .tuple #[.agg #[.int .i64 kz, .bool bz, .int .i64 mz, .int .i64 sz, .string tz, .slice az lz cz], .int .i64 R.2]) (by simp [results, Tryz.results18, go_sem, t0, t1, t2, t3, t4, t5]) rfl ⟨⟨_, rfl, .mk kz bz mz sz tz az lz cz kidz, rfl, ?_, ?_, unhide YB⟩, zBL⟩
 ·exact VT.In.kept (fun bl o _ hq => put_cell w3 w.heap.size 0 _ _ _ _ _ _ (by simp at hq; omega)) _ (unhide YI) (unhide YL)
 ·exact (unhide YL).weak (fun h hh => by simp at hh; omega)

def knT : List UInt8 := [115, 117, 109, 40, 91, 49, 44, 32, 50, 44, 32, 51, 93, 41, 32, 47, 32, 52]
theorem kn_calc : ((parseT knT).2.2 = 0 ∧ smaX (parseT knT).1 = true) ∧ (kdV (evT [] (parseT knT).1).1 = 2 ∧ mOf (evT [] (parseT knT).1).1 = 15 ∧ sOf (evT [] (parseT knT).1).1 = 1 ∧ (evT [] (parseT knT).1).2 = 0) := by decide +kernel

set_option maxHeartbeats 2000000 in
theorem eknown_any (w : World) : Calls Tryz.prog 15 #[] w fun e w' => e = .returned (.bool true) ∧ Below w.heap.size w w' := by
 obtain ⟨⟨h1, h2⟩, h3, h4, h5, h6⟩ := kn_calc
 have TD := hide (told_any knT (by decide) (parseT knT).1 (parseT knT).2.1 (by rw [← h1]) h2 [] none 0 w (fun i hi => absurd hi (Nat.not_lt_zero _)) (Nat.zero_le _) (fun e he => by cases he))
 rw [show envT [] = [] from rfl] at TD
 generalize evT [] (parseT knT).1 = R at *
 obtain ⟨RX, RE⟩ := R
 dsimp only at h3 h4 h5 h6
 subst h6
 clear h1 h2
 unfold knT at TD
 go_enter Tryz.func15, Tryz.ntmps15
 go_wp2_with fail
 refine (unhide TD).mono ?_
 rintro e w1 ⟨⟨v, rfl, T, rfl, hT, hTl, hTb⟩, b1⟩
 obtain ⟨kz, bz, mz, sz, tz, az, lz, cz, kidz, rfl⟩ := hT.form
 dsimp only at hTb
 rw [← hTb] at h3 h4 h5
 have h3 : kz = 2 := h3
 have h4 : mz = 15 := h4
 have h5 : sz = 1 := h5
 subst h3 h4 h5
 clear hT hTl hTb TD
 dsimp only [VT.val]
 go_wp2_with fail
 go_ret
 exact ⟨rfl, bstep b1 (below1 _ _)⟩
end Go.Proofs.YtfdimdjmnfdecaaGreat

/- Environments that a law lays out itself. -/
namespace Go.Proofs.YtfdimdjmnfdecaaGreat
open Go.RowKit
open VT (leaf mkV)
set_option linter.unusedVariables false
set_option linter.unusedSimpArgs false

end Go.Proofs.YtfdimdjmnfdecaaGreat

/- Leaves: values without lists, as the laws lay them out. -/
namespace Go.Proofs.YtfdimdjmnfdecaaGreat
open Go.RowKit
open VT (leaf mkV)
set_option linter.unusedVariables false
set_option linter.unusedSimpArgs false

theorem in_leaf2 {w w' : World} {k : Int} {b : Bool} {m s : Int} {t : ByteArray} {a : Option Addr} {cap : Nat} {kid : Nat → VT} (h : (VT.mk k b m s t a 0 cap kid).In w) : (VT.mk k b m s t a 0 cap kid).In w' := ⟨h.1, fun i hi => absurd hi (Nat.not_lt_zero _)⟩
theorem in_leaf3 {w w' : World} {k : Int} {b : Bool} {m s : Int} {t : ByteArray} {a : Option Addr} {cap : Nat} {kid : Nat → VT} (h : (VT.mk k b m s t a 0 cap kid).In w) : (leaf k b m s t).In w' := ⟨⟨h.1.1, h.1.2.1, h.1.2.2.1, h.1.2.2.2.1, Nat.le_refl _, Nat.zero_le _⟩, fun i hi => absurd hi (Nat.not_lt_zero _)⟩
theorem slf_same0 {w0 : World} (k : Int) (b : Bool) (m s : Int) (t : ByteArray) (a : Option Addr) (cap : Nat) (kid : Nat → VT) (h : (VT.mk k b m s t a 0 cap kid).In w0) (w : World) :
  Calls Tryz.prog 13 #[.agg #[.int .i64 k, .bool b, .int .i64 m, .int .i64 s, .string t, .slice a 0 cap], .agg #[.int .i64 k, .bool b, .int .i64 m, .int .i64 s, .string t, .slice none 0 0]] w fun e w' => e = .returned (.bool true) ∧ Below w.heap.size w w' := by
 have e : (VT.mk k b m s t a 0 cap kid).same (leaf k b m s t) = true := VT.same_of_bare _ _ (in_leaf2 (w' := w) h) (in_leaf3 (w' := w) h) (by rw [VT.bare_leaf]; unfold leaf; rw [VT.bare_leaf]; rfl)
 have := same_any (VT.mk k b m s t a 0 cap kid) (leaf k b m s t) w (in_leaf2 h) (in_leaf3 h)
 rw [e] at this
 exact this
theorem slf_same {w0 : World} (k : Int) (b : Bool) (m s : Int) (t : ByteArray) (a : Option Addr) (cap : Nat) (kid : Nat → VT) (h : (VT.mk k b m s t a 0 cap kid).In w0) (w : World) :
  Calls Tryz.prog 13 #[.agg #[.int .i64 k, .bool b, .int .i64 m, .int .i64 s, .string t, .slice a 0 cap], .agg #[.int .i64 k, .bool b, .int .i64 m, .int .i64 s, .string t, .slice none 0 0]] w fun e w' => e = .returned (.bool true) ∧ Below w.heap.size w w' := slf_same0 k b m s t a cap kid h w
end Go.Proofs.YtfdimdjmnfdecaaGreat

/- The values of expressions that are put together, kid by kid. -/
namespace Go.Proofs.YtfdimdjmnfdecaaGreat
open VT (leaf mkV)
set_option linter.unusedVariables false

end Go.Proofs.YtfdimdjmnfdecaaGreat

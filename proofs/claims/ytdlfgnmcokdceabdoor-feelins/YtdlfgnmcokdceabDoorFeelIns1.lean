/- The walk of FeelIns at one pair of brackets. (Printed by mkins.py.) -/
import Derived.Test.YtdlfgnmcokdceabDoorFeelInsM
namespace Go.Proofs.YtdlfgnmcokdceabDoor
open Go.RowKit
set_option linter.unusedVariables false
set_option maxHeartbeats 16000000 in
set_option maxRecDepth 10000 in
theorem ins_1 (ar : Bool) (w : World) (sig : Sig w) :
    Calls Tryd.prog 5 #[.bool true, .bool true, .bool ar] w fun e w' => e = .returned (.bool true) ∧ Below w.heap.size w w' := by
  have SG := hide sig
  clear sig
  go_enter Tryd.func5, Tryd.ntmps5
  go_upto_region 1 with fail
  go_cut [7] (fun s wx => s = .string ⟨#[120, 32, 105, 110, 32, 91, 49, 46, 46, 121, 32, 43, 32, 50, 93]⟩ ∧ Below w.heap.size w wx)
  case first =>
    go_region_with ((go_at_call 11; (first | refine (onetwo_t _).mono ?_ | refine (onetwo_f _).mono ?_); rintro e w' ⟨rfl, rfl⟩))
    all_goals
      go_wp2_with fail
      go_meet
      exact ⟨by first | rfl | decide, by (repeat (first | with_reducible assumption | with_reducible exact Below.refl _ _ | (with_reducible refine Below.setCell ?_ ?_ _; rotate_left; (focus (first | omega | (simp; done) | (simp; omega) | (dsimp only; omega)))) | (with_reducible refine Below.alloc ?_ ?_ _; rotate_left; (focus (first | omega | (simp; done) | (simp; omega) | (dsimp only; omega)))) | with_reducible refine Below.drew ?_ | with_reducible refine below_dN ?_ _))⟩
  case rest =>
    obtain ⟨rfl, B0⟩ := hcut
    have SG0 := hide ((unhide SG).below B0)
    cases ar with
    | false =>
      have P1 := hide (parse_any [120, 32, 105, 110, 32, 91, 49, 46, 46, 121, 32, 43, 32, 50, 93] (by decide) wc (unhide SG0))
      have P2 := hide (fun w => qparse_any [120, 32, 105, 110, 32, 91, 49, 46, 46, 121, 32, 43, 32, 50, 93] (by decide) w)
      have K := ins_calc_1_false
      generalize parseT [120, 32, 105, 110, 32, 91, 49, 46, 46, 121, 32, 43, 32, 50, 93] = X at *
      skip
      obtain ⟨xt, xn, xe⟩ := X
      skip
      cases xt with
      | none => simp [insB] at K
      | mk zk zb zm zs zt zlo zhi za zl zc zkid =>
        unfold insB at K
        simp only [Bool.and_eq_true, decide_eq_true_eq, beq_iff_eq] at K
        obtain ⟨⟨⟨rfl, -⟩, hsame⟩, ⟨⟨rfl, rfl⟩, rfl⟩, rfl⟩ := K
        have HSM := hide hsame
        clear hsame
        go_wp2_with fail
        refine (unhide P1).mono ?_
        rintro e w1 ⟨⟨A, rfl, hinA, hbA⟩, b1⟩
        have HA := hide hinA
        dsimp only at hbA
        have HBA := hide hbA
        obtain ⟨fk, fb, fm, fs, ft, flo, fhi, fa, fl, fc, fkid, rfl⟩ := hinA.form
        clear hinA
        rw [XT.bare] at hbA
        simp only [XT.mk.injEq] at hbA
        obtain ⟨rfl, rfl, rfl, rfl, rfl, rfl, rfl, rfl, rfl, rfl, -⟩ := hbA
        have XA := hide (XB.new w1 11 fb fm fs ft true true fa 3 fc 28)
        have B1 := hide (bstep (bstep B0 b1) (below1 w1 (Obj.cells #[.int .i64 11, .bool fb, .int .i64 fm, .int .i64 fs, .string ft, .bool true, .bool true, .slice fa 3 fc] 28)))
        have HA1 := hide ((unhide HA).alloc (Obj.cells #[.int .i64 11, .bool fb, .int .i64 fm, .int .i64 fs, .string ft, .bool true, .bool true, .slice fa 3 fc] 28))
        clear HA P1 b1 B0
        dsimp only [XT.val]
        go_wp2_with fail
        refine (unhide P2 _).mono ?_
        rintro e w2 ⟨⟨C, rfl, hinC, hbC⟩, b2⟩
        dsimp only at hbC
        have HC := hide hinC
        have HS : (XT.mk 11 fb fm fs ft true true fa 3 fc fkid).same C = true := by
          rw [XT.same_bare, unhide HBA, hbC]
          exact unhide HSM
        clear hbC HBA HSM
        obtain ⟨hk, hb, hm, hs, ht, hlo, hhi, ha, hl, hc, hkid, rfl⟩ := hinC.form
        clear hinC
        have XA2 := ((unhide XA).below b2).alloc (Obj.cells #[.int .i64 hk, .bool hb, .int .i64 hm, .int .i64 hs, .string ht, .bool hlo, .bool hhi, .slice ha hl hc] 28)
        have XC := XB.new w2 hk hb hm hs ht hlo hhi ha hl hc 28
        have B2 := hide (bstep (bstep (unhide B1) b2) (below1 w2 (Obj.cells #[.int .i64 hk, .bool hb, .int .i64 hm, .int .i64 hs, .string ht, .bool hlo, .bool hhi, .slice ha hl hc] 28)))
        have RS := hide (rsame_any (XT.mk 11 fb fm fs ft true true fa 3 fc fkid) (XT.mk hk hb hm hs ht hlo hhi ha hl hc hkid) _ _ _ (((unhide HA1).below b2).alloc (Obj.cells #[.int .i64 hk, .bool hb, .int .i64 hm, .int .i64 hs, .string ht, .bool hlo, .bool hhi, .slice ha hl hc] 28)) ((unhide HC).alloc (Obj.cells #[.int .i64 hk, .bool hb, .int .i64 hm, .int .i64 hs, .string ht, .bool hlo, .bool hhi, .slice ha hl hc] 28)))
        rw [HS] at RS
        clear HS P2 b2 XA HC HA1 B1
        obtain ⟨p0, p1, p2, p3, p4, p5, p6, p7, p8, p9⟩ := XA2
        obtain ⟨q0, q1, q2, q3, q4, q5, q6, q7, q8, q9⟩ := XC
        dsimp only [XT.val]
        go_wp2_with fail
        refine (unhide RS).mono ?_
        rintro e w3 ⟨rfl, b3⟩
        have B3 := hide (bstep (unhide B2) b3)
        clear b3
        go_wp2_with fail
        refine (fknown_any _ ((unhide SG).below (unhide B3))).mono ?_
        rintro e w4 ⟨rfl, b4⟩
        go_wp2_with fail
        go_ret
        exact ⟨rfl, bstep (unhide B3) b4⟩
    | true =>
      have P1 := hide (parse_any [40, 40, 120, 32, 105, 110, 32, 91, 49, 46, 46, 121, 32, 43, 32, 50, 93, 41, 41] (by decide) wc (unhide SG0))
      have P2 := hide (fun w => qparse_any [120, 32, 105, 110, 32, 91, 49, 46, 46, 121, 32, 43, 32, 50, 93] (by decide) w)
      have K := ins_calc_1_true
      generalize parseT [40, 40, 120, 32, 105, 110, 32, 91, 49, 46, 46, 121, 32, 43, 32, 50, 93, 41, 41] = X at *
      generalize parseT [120, 32, 105, 110, 32, 91, 49, 46, 46, 121, 32, 43, 32, 50, 93] = Y at *
      obtain ⟨xt, xn, xe⟩ := X
      obtain ⟨yt, yn, ye⟩ := Y
      cases xt with
      | none => simp [insB] at K
      | mk zk zb zm zs zt zlo zhi za zl zc zkid =>
        unfold insB at K
        simp only [Bool.and_eq_true, decide_eq_true_eq, beq_iff_eq] at K
        obtain ⟨⟨⟨rfl, rfl⟩, hsame⟩, ⟨⟨rfl, rfl⟩, rfl⟩, rfl⟩ := K
        have HSM := hide hsame
        clear hsame
        go_wp2_with fail
        refine (unhide P1).mono ?_
        rintro e w1 ⟨⟨A, rfl, hinA, hbA⟩, b1⟩
        have HA := hide hinA
        dsimp only at hbA
        have HBA := hide hbA
        obtain ⟨fk, fb, fm, fs, ft, flo, fhi, fa, fl, fc, fkid, rfl⟩ := hinA.form
        clear hinA
        rw [XT.bare] at hbA
        simp only [XT.mk.injEq] at hbA
        obtain ⟨rfl, rfl, rfl, rfl, rfl, rfl, rfl, rfl, rfl, rfl, -⟩ := hbA
        have XA := hide (XB.new w1 11 fb fm fs ft true true fa 3 fc 28)
        have B1 := hide (bstep (bstep B0 b1) (below1 w1 (Obj.cells #[.int .i64 11, .bool fb, .int .i64 fm, .int .i64 fs, .string ft, .bool true, .bool true, .slice fa 3 fc] 28)))
        have HA1 := hide ((unhide HA).alloc (Obj.cells #[.int .i64 11, .bool fb, .int .i64 fm, .int .i64 fs, .string ft, .bool true, .bool true, .slice fa 3 fc] 28))
        clear HA P1 b1 B0
        dsimp only [XT.val]
        go_wp2_with fail
        refine (unhide P2 _).mono ?_
        rintro e w2 ⟨⟨C, rfl, hinC, hbC⟩, b2⟩
        dsimp only at hbC
        have HC := hide hinC
        have HS : (XT.mk 11 fb fm fs ft true true fa 3 fc fkid).same C = true := by
          rw [XT.same_bare, unhide HBA, hbC]
          exact unhide HSM
        clear hbC HBA HSM
        obtain ⟨hk, hb, hm, hs, ht, hlo, hhi, ha, hl, hc, hkid, rfl⟩ := hinC.form
        clear hinC
        have XA2 := ((unhide XA).below b2).alloc (Obj.cells #[.int .i64 hk, .bool hb, .int .i64 hm, .int .i64 hs, .string ht, .bool hlo, .bool hhi, .slice ha hl hc] 28)
        have XC := XB.new w2 hk hb hm hs ht hlo hhi ha hl hc 28
        have B2 := hide (bstep (bstep (unhide B1) b2) (below1 w2 (Obj.cells #[.int .i64 hk, .bool hb, .int .i64 hm, .int .i64 hs, .string ht, .bool hlo, .bool hhi, .slice ha hl hc] 28)))
        have RS := hide (rsame_any (XT.mk 11 fb fm fs ft true true fa 3 fc fkid) (XT.mk hk hb hm hs ht hlo hhi ha hl hc hkid) _ _ _ (((unhide HA1).below b2).alloc (Obj.cells #[.int .i64 hk, .bool hb, .int .i64 hm, .int .i64 hs, .string ht, .bool hlo, .bool hhi, .slice ha hl hc] 28)) ((unhide HC).alloc (Obj.cells #[.int .i64 hk, .bool hb, .int .i64 hm, .int .i64 hs, .string ht, .bool hlo, .bool hhi, .slice ha hl hc] 28)))
        rw [HS] at RS
        clear HS P2 b2 XA HC HA1 B1
        obtain ⟨p0, p1, p2, p3, p4, p5, p6, p7, p8, p9⟩ := XA2
        obtain ⟨q0, q1, q2, q3, q4, q5, q6, q7, q8, q9⟩ := XC
        dsimp only [XT.val]
        go_wp2_with fail
        refine (unhide RS).mono ?_
        rintro e w3 ⟨rfl, b3⟩
        have B3 := hide (bstep (unhide B2) b3)
        clear b3
        go_wp2_with fail
        refine (fknown_any _ ((unhide SG).below (unhide B3))).mono ?_
        rintro e w4 ⟨rfl, b4⟩
        go_wp2_with fail
        go_ret
        exact ⟨rfl, bstep (unhide B3) b4⟩
end Go.Proofs.YtdlfgnmcokdceabDoor

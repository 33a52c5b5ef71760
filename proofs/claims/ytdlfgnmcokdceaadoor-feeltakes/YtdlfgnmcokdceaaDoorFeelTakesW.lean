/- The walk of FeelTakes: both ways of taking an expression at a place tell the same. -/
import Derived.Test.YtdlfgnmcokdceaaDoorGH
import Derived.Test.YtdlfgnmcokdceaaDoorGI
import Derived.Test.YtdlfgnmcokdceaaDoorGQ
import Derived.Test.YtdlfgnmcokdceaaDoorFAnd
namespace Go.Proofs.YtdlfgnmcokdceaaDoor
open Go.RowKit
set_option linter.unusedVariables false

set_option maxHeartbeats 8000000 in
theorem feelTakes_walk (s : ByteArray) (at_ en : Int) (hs : s.size ≤ maxLen) (hat : (Lit.int .i64 at_).wf = true) (hen : (Lit.int .i64 en).wf = true) (w : World) (sig : Sig w) :
    Calls Tryd.prog 7 #[.string s, .int .i64 at_, .int .i64 en] w fun e w' => e = .returned (.bool true) ∧ Below w.heap.size w w' := by
  obtain ⟨l, rfl⟩ := bytes_of s
  have hs' : l.length ≤ maxLen := hs
  unfold maxLen at hs'
  have SG := hide sig
  clear hs sig hat hen
  by_cases h4 : 300 < l.length
  · go_enter Tryd.func7, Tryd.ntmps7
    go_wp2_with fail
    go_ret
    exact ⟨rfl, Below.refl _ _⟩
  have L := hide (rlex_all l w (by omega))
  have HG := hide (good_lex l (by omega))
  have h60 := lexT_len l
  generalize lexT l = LX at *
  obtain ⟨ts, n, e0⟩ := LX
  dsimp only at h60
  go_enter Tryd.func7, Tryd.ntmps7
  go_wp2_with fail
  refine (unhide L).mono ?_
  rintro e w1 ⟨⟨v, rfl, own⟩, b1⟩
  have B1 := hide b1
  obtain ⟨a, cap, rfl, row, hrg⟩ := row_of own
  clear own L hrg b1
  dsimp only at HG row
  have ROW := hide row
  clear row
  have K1 := hide (fun w' (b : Below w.heap.size w w') => fknown_any w' ((unhide SG).below b))
  clear SG
  by_cases he0 : e0 = 0
  · subst he0
    by_cases hl0 : ts.length = 0
    · go_wp2_with fail
      refine (unhide K1 _ (unhide B1)).mono ?_
      rintro e w2 ⟨rfl, b2⟩
      go_wp2_with fail
      go_ret
      exact ⟨rfl, bstep (unhide B1) b2⟩
    have hAnd := and_1023 at_
    have hm0 : 0 ≤ at_ % 1024 := Int.emod_nonneg _ (by decide)
    have hm1 : at_ % 1024 < 1024 := Int.emod_lt_of_pos _ (by decide)
    obtain ⟨m, hm⟩ : ∃ m : Nat, at_ % 1024 = (m : Int) := ⟨(at_ % 1024).toNat, by omega⟩
    rw [hm] at hAnd hm0 hm1
    clear hm
    have hz : ((ts.length : Int) + 1 == 0) = false := by rw [beq_eq_false_iff_ne]; omega
    have hz1 : ¬ ((ts.length : Int) + 1 = 0) := by omega
    have hz2 : ¬ ((ts.length : Int) + 1 = -1) := by omega
    obtain ⟨k, hk, hkl⟩ : ∃ k : Nat, (m : Int).tmod ((ts.length : Int) + 1) = (k : Int) ∧ k ≤ ts.length := by
      refine ⟨m % (ts.length + 1), ?_, by have := Nat.mod_lt m (show 0 < ts.length + 1 by omega); omega⟩
      rw [Int.tmod_eq_emod_of_nonneg (by omega)]
      push_cast
      rfl
    have hkw : IntKind.i64.wrap (k : Int) = (k : Int) := i64_in (by omega) (by omega)
    have T1 := hide (take_any (a := a) (cap := cap) (unhide HG) w1 k en (unhide ROW) hkl)
    have T2 := hide (fun w hr => qtake_any (a := a) (cap := cap) (unhide HG) (by omega) w k en hr hkl)
    generalize takeT ts k en = X at *
    obtain ⟨xt, x1, x2, x3⟩ := X
    clear HG
    have hne : (ts.length == 0) = false := by simpa using hl0
    have hne2 : ((ts.length : Int) == 0) = false := by rw [beq_eq_false_iff_ne]; omega
    go_wp2_with fail
    refine (unhide T1).mono ?_
    rintro e w2 ⟨⟨A, rfl, hinA, hbA⟩, -, b2⟩
    dsimp only at hbA
    have HA := hide hinA
    have HBA := hide hbA
    clear hbA
    obtain ⟨fk, fb, fm, fs, ft, flo, fhi, fa, fl, fc, fkid, rfl⟩ := hinA.form
    clear hinA
    have XA := hide (XB.new w2 fk fb fm fs ft flo fhi fa fl fc 26)
    have b2' := bstep b2 (below1 w2 (Obj.cells #[.int .i64 fk, .bool fb, .int .i64 fm, .int .i64 fs, .string ft, .bool flo, .bool fhi, .slice fa fl fc] 26))
    have B2 := hide (bstep (unhide B1) b2')
    have ROW2 := hide ((unhide ROW).below b2')
    have HA1 := hide ((unhide HA).alloc (Obj.cells #[.int .i64 fk, .bool fb, .int .i64 fm, .int .i64 fs, .string ft, .bool flo, .bool fhi, .slice fa fl fc] 26))
    clear HA T1 b2 b2' ROW B1
    dsimp only [XT.val]
    go_wp2_with fail
    refine (unhide T2 _ (unhide ROW2)).mono ?_
    rintro e w3 ⟨⟨C, rfl, hinC, hbC⟩, -, b3⟩
    dsimp only at hbC
    have HC := hide hinC
    have HS := XT.same_of (unhide HBA) hbC
    clear hbC HBA
    obtain ⟨hk', hb, hm, hs, ht, hlo, hhi, ha, hl, hc, hkid, rfl⟩ := hinC.form
    clear hinC
    have XA2 := ((unhide XA).below b3).alloc (Obj.cells #[.int .i64 hk', .bool hb, .int .i64 hm, .int .i64 hs, .string ht, .bool hlo, .bool hhi, .slice ha hl hc] 26)
    have XC := XB.new w3 hk' hb hm hs ht hlo hhi ha hl hc 26
    have B3 := hide (bstep (bstep (unhide B2) b3) (below1 w3 (Obj.cells #[.int .i64 hk', .bool hb, .int .i64 hm, .int .i64 hs, .string ht, .bool hlo, .bool hhi, .slice ha hl hc] 26)))
    have RS := hide (rsame_any (XT.mk fk fb fm fs ft flo fhi fa fl fc fkid) (XT.mk hk' hb hm hs ht hlo hhi ha hl hc hkid) _ _ _ (((unhide HA1).below b3).alloc (Obj.cells #[.int .i64 hk', .bool hb, .int .i64 hm, .int .i64 hs, .string ht, .bool hlo, .bool hhi, .slice ha hl hc] 26)) ((unhide HC).alloc (Obj.cells #[.int .i64 hk', .bool hb, .int .i64 hm, .int .i64 hs, .string ht, .bool hlo, .bool hhi, .slice ha hl hc] 26)))
    rw [HS] at RS
    clear HS T2 b3 XA HC HA1 B2 ROW2
    obtain ⟨p0, p1, p2, p3, p4, p5, p6, p7, p8, p9⟩ := XA2
    obtain ⟨q0, q1, q2, q3, q4, q5, q6, q7, q8, q9⟩ := XC
    dsimp only [XT.val]
    go_wp2_with fail
    refine (unhide RS).mono ?_
    rintro e w4 ⟨rfl, b4⟩
    have B4 := hide (bstep (unhide B3) b4)
    clear b4
    go_wp2_with fail
    refine (unhide K1 _ (unhide B4)).mono ?_
    rintro e w5 ⟨rfl, b5⟩
    go_wp2_with fail
    go_ret
    exact ⟨rfl, bstep (unhide B4) b5⟩
  · have he : (e0 != 0) = true := by simpa using he0
    go_wp2_with fail
    refine (unhide K1 _ (unhide B1)).mono ?_
    rintro e w2 ⟨rfl, b2⟩
    go_wp2_with fail
    go_ret
    exact ⟨rfl, bstep (unhide B1) b2⟩
end Go.Proofs.YtdlfgnmcokdceaaDoor

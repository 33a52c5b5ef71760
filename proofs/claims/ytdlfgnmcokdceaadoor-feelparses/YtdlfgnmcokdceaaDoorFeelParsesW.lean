/- The walk of FeelParses: both ways of parsing a text tell the same. -/
import Derived.Test.YtdlfgnmcokdceaaDoorGH
import Derived.Test.YtdlfgnmcokdceaaDoorGI
import Derived.Test.YtdlfgnmcokdceaaDoorGQ
namespace Go.Proofs.YtdlfgnmcokdceaaDoor
open Go.RowKit
set_option linter.unusedVariables false

set_option maxHeartbeats 8000000 in
theorem feelParses_walk (s : ByteArray) (hs : s.size ≤ maxLen) (w : World) (sig : Sig w) :
    Calls Tryd.prog 6 #[.string s] w fun e w' => e = .returned (.bool true) ∧ Below w.heap.size w w' := by
  obtain ⟨l, rfl⟩ := bytes_of s
  have hs' : l.length ≤ maxLen := hs
  unfold maxLen at hs'
  have SG := hide sig
  clear hs sig
  by_cases h4 : 400 < l.length
  · go_enter Tryd.func6, Tryd.ntmps6
    go_wp2_with fail
    go_ret
    exact ⟨rfl, Below.refl _ _⟩
  have P1 := hide (parse_any l (by omega) w (unhide SG))
  have P2 := hide (fun w => qparse_any l (by omega) w)
  generalize parseT l = X at *
  obtain ⟨xt, n, e0⟩ := X
  go_enter Tryd.func6, Tryd.ntmps6
  go_wp2_with fail
  refine (unhide P1).mono ?_
  rintro e w1 ⟨⟨A, rfl, hinA, hbA⟩, b1⟩
  dsimp only at hbA
  have HA := hide hinA
  have HBA := hide hbA
  clear hbA
  obtain ⟨fk, fb, fm, fs, ft, flo, fhi, fa, fl, fc, fkid, rfl⟩ := hinA.form
  clear hinA
  have XA := hide (XB.new w1 fk fb fm fs ft flo fhi fa fl fc 26)
  have B1 := hide (bstep b1 (below1 w1 (Obj.cells #[.int .i64 fk, .bool fb, .int .i64 fm, .int .i64 fs, .string ft, .bool flo, .bool fhi, .slice fa fl fc] 26)))
  have HA1 := hide ((unhide HA).alloc (Obj.cells #[.int .i64 fk, .bool fb, .int .i64 fm, .int .i64 fs, .string ft, .bool flo, .bool fhi, .slice fa fl fc] 26))
  clear HA P1 b1
  dsimp only [XT.val]
  go_wp2_with fail
  refine (unhide P2 _).mono ?_
  rintro e w2 ⟨⟨C, rfl, hinC, hbC⟩, b2⟩
  dsimp only at hbC
  have HC := hide hinC
  have HS := XT.same_of (unhide HBA) hbC
  clear hbC HBA
  obtain ⟨hk, hb, hm, hs, ht, hlo, hhi, ha, hl, hc, hkid, rfl⟩ := hinC.form
  clear hinC
  have XA2 := ((unhide XA).below b2).alloc (Obj.cells #[.int .i64 hk, .bool hb, .int .i64 hm, .int .i64 hs, .string ht, .bool hlo, .bool hhi, .slice ha hl hc] 26)
  have XC := XB.new w2 hk hb hm hs ht hlo hhi ha hl hc 26
  have B2 := hide (bstep (bstep (unhide B1) b2) (below1 w2 (Obj.cells #[.int .i64 hk, .bool hb, .int .i64 hm, .int .i64 hs, .string ht, .bool hlo, .bool hhi, .slice ha hl hc] 26)))
  have RS := hide (rsame_any (XT.mk fk fb fm fs ft flo fhi fa fl fc fkid) (XT.mk hk hb hm hs ht hlo hhi ha hl hc hkid) _ _ _ (((unhide HA1).below b2).alloc (Obj.cells #[.int .i64 hk, .bool hb, .int .i64 hm, .int .i64 hs, .string ht, .bool hlo, .bool hhi, .slice ha hl hc] 26)) ((unhide HC).alloc (Obj.cells #[.int .i64 hk, .bool hb, .int .i64 hm, .int .i64 hs, .string ht, .bool hlo, .bool hhi, .slice ha hl hc] 26)))
  rw [HS] at RS
  clear HS P2 b2 XA HC HA1 B1
  obtain ⟨p0, p1, p2, p3, p4, p5, p6, p7, p8, p9⟩ := XA2
  obtain ⟨q0, q1, q2, q3, q4, q5, q6, q7, q8, q9⟩ := XC
  dsimp only [XT.val]
  go_wp2_with fail
  refine (unhide RS).mono ?_
  rintro e w3 ⟨rfl, b3⟩
  have B3 := hide (bstep (unhide B2) b3)
  clear b3
  go_wp2_with fail
  refine (fknown_any _ ((unhide SG).below (unhide B3))).mono ?_
  rintro e w4 ⟨rfl, b4⟩
  go_wp2_with fail
  go_ret
  exact ⟨rfl, bstep (unhide B3) b4⟩
end Go.Proofs.YtdlfgnmcokdceaaDoor

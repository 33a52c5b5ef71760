/- The walk of FeelEnds: what is cut within is none, and says where; a text a theorem. (Printed by mkends.py.) -/
import Derived.Test.YtdlfgnmcokdceabDoorGH
import Derived.Test.YtdlfgnmcokdceabDoorGQ
import Derived.Test.YtdlfgnmcokdceabDoorFAnd
namespace Go.Proofs.YtdlfgnmcokdceabDoor
open Go.RowKit
set_option linter.unusedVariables false
/- what the law asks of a text cut at a place. -/
def fendB (N n : Nat) (X : XT × Int × Int) : Bool := decide (X.2.1 ≤ (n : Int)) && (decide (n < N) || decide (X.2.2 = 0))

def fendL0 : List UInt8 := [105, 102, 32, 97, 32, 116, 104, 101, 110, 32, 98, 32, 101, 108, 115, 101, 32, 99]
set_option maxRecDepth 100000 in
theorem ends_calc0 : ∀ m, m < 18 → fendB 18 (m + 1) (parseT (fendL0.take (m + 1))) = true := by decide +kernel

set_option maxHeartbeats 8000000 in
set_option maxRecDepth 10000 in
theorem ends_0 (at_ : Int) (w : World) (sig : Sig w) :
    Calls Tryd.prog 4 #[.int .i64 0, .int .i64 at_] w fun e w' => e = .returned (.bool true) ∧ Below w.heap.size w w' := by
  have SG := hide sig
  clear sig
  have hAnd := and_65535 at_
  have hm0 : 0 ≤ at_ % 65536 := Int.emod_nonneg _ (by decide)
  have hm1 : at_ % 65536 < 65536 := Int.emod_lt_of_pos _ (by decide)
  obtain ⟨q, hq⟩ : ∃ q : Nat, at_ % 65536 = (q : Int) := ⟨(at_ % 65536).toNat, by omega⟩
  rw [hq] at hAnd hm0 hm1
  clear hq
  obtain ⟨m, hm, hml⟩ : ∃ m : Nat, (q : Int).tmod 18 = (m : Int) ∧ m < 18 := by
    refine ⟨q % 18, ?_, Nat.mod_lt _ (by decide)⟩
    rw [Int.tmod_eq_emod_of_nonneg (by omega)]
    omega
  have hc := ends_calc0 m hml
  have hw1 : IntKind.i64.wrap (m : Int) = (m : Int) := i64_in (by omega) (by omega)
  have hw2 : IntKind.i64.wrap (1 + (m : Int)) = 1 + (m : Int) := i64_in (by omega) (by omega)
  have s1 : 1 + (m : Int) ≤ 18 := by omega
  have s2 : 0 ≤ 1 + (m : Int) := by omega
  have s4 : (1 + (m : Int)).toNat = m + 1 := by omega
  have ex : (ByteArray.mk #[105, 102, 32, 97, 32, 116, 104, 101, 110, 32, 98, 32, 101, 108, 115, 101, 32, 99]).extract 0 (m + 1) = ByteArray.mk (fendL0.take (m + 1)).toArray := (lext_eq fendL0 0 (m + 1)).trans (by simp)
  have hll : (fendL0.take (m + 1)).length ≤ 1000 := by rw [List.length_take]; have : fendL0.length = 18 := rfl; omega
  have P1 := hide (fun w sg => parse_any (fendL0.take (m + 1)) hll w sg)
  have P2 := hide (fun w => qparse_any (fendL0.take (m + 1)) hll w)
  clear hll
  generalize parseT (fendL0.take (m + 1)) = X at *
  obtain ⟨xt, n, e0⟩ := X
  unfold fendB at hc
  simp only [Bool.and_eq_true, Bool.or_eq_true, decide_eq_true_eq] at hc
  obtain ⟨hc1, hc2⟩ := hc
  have c1 : n ≤ 1 + (m : Int) := by omega
  have c2 : (1 + (m : Int) < 18) ∨ e0 = 0 := by omega
  clear hc1 hc2
  generalize fendL0.take (m + 1) = Y at *
  go_enter Tryd.func4, Tryd.ntmps4
  go_wp2_with fail
  refine (unhide P1 _ ((unhide SG).below (below1 _ _))).mono ?_
  rintro e w1 ⟨⟨A, rfl, hinA, -⟩, b1⟩
  have B1 := bstep (below1 _ _) b1
  obtain ⟨fk, fb, fm, fs, ft, flo, fhi, fa, fl, fc, fkid, rfl⟩ := hinA.form
  clear hinA b1
  dsimp only [XT.val]
  go_wp2_with fail
  refine (unhide P2 _).mono ?_
  rintro e w2 ⟨⟨C, rfl, hinC, -⟩, b2⟩
  obtain ⟨hk, hb, hm, hs, ht, hlo, hhi, ha, hl, hc, hkid, rfl⟩ := hinC.form
  have B2 := hide (bstep (bstep (bstep B1 (below1 _ _)) b2) (below1 w2 (Obj.cells #[.int .i64 hk, .bool hb, .int .i64 hm, .int .i64 hs, .string ht, .bool hlo, .bool hhi, .slice ha hl hc] 28)))
  clear hinC b2 B1
  dsimp only [XT.val]
  rcases c2 with c2 | rfl
  · go_wp2_with fail
    refine (fknown_any _ ((unhide SG).below (unhide B2))).mono ?_
    rintro e w3 ⟨rfl, b3⟩
    go_wp2_with fail
    go_ret
    exact ⟨rfl, bstep (unhide B2) b3⟩
  · by_cases c3 : 1 + (m : Int) < 18
    · go_wp2_with fail
      refine (fknown_any _ ((unhide SG).below (unhide B2))).mono ?_
      rintro e w3 ⟨rfl, b3⟩
      go_wp2_with fail
      go_ret
      exact ⟨rfl, bstep (unhide B2) b3⟩
    · go_wp2_with fail
      refine (fknown_any _ ((unhide SG).below (unhide B2))).mono ?_
      rintro e w3 ⟨rfl, b3⟩
      go_wp2_with fail
      go_ret
      exact ⟨rfl, bstep (unhide B2) b3⟩

def fendL1 : List UInt8 := [102, 40, 97, 44, 32, 91, 49, 44, 32, 50, 93, 41]
set_option maxRecDepth 100000 in
theorem ends_calc1 : ∀ m, m < 12 → fendB 12 (m + 1) (parseT (fendL1.take (m + 1))) = true := by decide +kernel

set_option maxHeartbeats 8000000 in
set_option maxRecDepth 10000 in
theorem ends_1 (at_ : Int) (w : World) (sig : Sig w) :
    Calls Tryd.prog 4 #[.int .i64 1, .int .i64 at_] w fun e w' => e = .returned (.bool true) ∧ Below w.heap.size w w' := by
  have SG := hide sig
  clear sig
  have hAnd := and_65535 at_
  have hm0 : 0 ≤ at_ % 65536 := Int.emod_nonneg _ (by decide)
  have hm1 : at_ % 65536 < 65536 := Int.emod_lt_of_pos _ (by decide)
  obtain ⟨q, hq⟩ : ∃ q : Nat, at_ % 65536 = (q : Int) := ⟨(at_ % 65536).toNat, by omega⟩
  rw [hq] at hAnd hm0 hm1
  clear hq
  obtain ⟨m, hm, hml⟩ : ∃ m : Nat, (q : Int).tmod 12 = (m : Int) ∧ m < 12 := by
    refine ⟨q % 12, ?_, Nat.mod_lt _ (by decide)⟩
    rw [Int.tmod_eq_emod_of_nonneg (by omega)]
    omega
  have hc := ends_calc1 m hml
  have hw1 : IntKind.i64.wrap (m : Int) = (m : Int) := i64_in (by omega) (by omega)
  have hw2 : IntKind.i64.wrap (1 + (m : Int)) = 1 + (m : Int) := i64_in (by omega) (by omega)
  have s1 : 1 + (m : Int) ≤ 12 := by omega
  have s2 : 0 ≤ 1 + (m : Int) := by omega
  have s4 : (1 + (m : Int)).toNat = m + 1 := by omega
  have ex : (ByteArray.mk #[102, 40, 97, 44, 32, 91, 49, 44, 32, 50, 93, 41]).extract 0 (m + 1) = ByteArray.mk (fendL1.take (m + 1)).toArray := (lext_eq fendL1 0 (m + 1)).trans (by simp)
  have hll : (fendL1.take (m + 1)).length ≤ 1000 := by rw [List.length_take]; have : fendL1.length = 12 := rfl; omega
  have P1 := hide (fun w sg => parse_any (fendL1.take (m + 1)) hll w sg)
  have P2 := hide (fun w => qparse_any (fendL1.take (m + 1)) hll w)
  clear hll
  generalize parseT (fendL1.take (m + 1)) = X at *
  obtain ⟨xt, n, e0⟩ := X
  unfold fendB at hc
  simp only [Bool.and_eq_true, Bool.or_eq_true, decide_eq_true_eq] at hc
  obtain ⟨hc1, hc2⟩ := hc
  have c1 : n ≤ 1 + (m : Int) := by omega
  have c2 : (1 + (m : Int) < 12) ∨ e0 = 0 := by omega
  clear hc1 hc2
  generalize fendL1.take (m + 1) = Y at *
  go_enter Tryd.func4, Tryd.ntmps4
  go_wp2_with fail
  refine (unhide P1 _ ((unhide SG).below (below1 _ _))).mono ?_
  rintro e w1 ⟨⟨A, rfl, hinA, -⟩, b1⟩
  have B1 := bstep (below1 _ _) b1
  obtain ⟨fk, fb, fm, fs, ft, flo, fhi, fa, fl, fc, fkid, rfl⟩ := hinA.form
  clear hinA b1
  dsimp only [XT.val]
  go_wp2_with fail
  refine (unhide P2 _).mono ?_
  rintro e w2 ⟨⟨C, rfl, hinC, -⟩, b2⟩
  obtain ⟨hk, hb, hm, hs, ht, hlo, hhi, ha, hl, hc, hkid, rfl⟩ := hinC.form
  have B2 := hide (bstep (bstep (bstep B1 (below1 _ _)) b2) (below1 w2 (Obj.cells #[.int .i64 hk, .bool hb, .int .i64 hm, .int .i64 hs, .string ht, .bool hlo, .bool hhi, .slice ha hl hc] 28)))
  clear hinC b2 B1
  dsimp only [XT.val]
  rcases c2 with c2 | rfl
  · go_wp2_with fail
    refine (fknown_any _ ((unhide SG).below (unhide B2))).mono ?_
    rintro e w3 ⟨rfl, b3⟩
    go_wp2_with fail
    go_ret
    exact ⟨rfl, bstep (unhide B2) b3⟩
  · by_cases c3 : 1 + (m : Int) < 12
    · go_wp2_with fail
      refine (fknown_any _ ((unhide SG).below (unhide B2))).mono ?_
      rintro e w3 ⟨rfl, b3⟩
      go_wp2_with fail
      go_ret
      exact ⟨rfl, bstep (unhide B2) b3⟩
    · go_wp2_with fail
      refine (fknown_any _ ((unhide SG).below (unhide B2))).mono ?_
      rintro e w3 ⟨rfl, b3⟩
      go_wp2_with fail
      go_ret
      exact ⟨rfl, bstep (unhide B2) b3⟩

def fendL2 : List UInt8 := [97, 32, 105, 110, 32, 40, 49, 46, 46, 50, 93]
set_option maxRecDepth 100000 in
theorem ends_calc2 : ∀ m, m < 11 → fendB 11 (m + 1) (parseT (fendL2.take (m + 1))) = true := by decide +kernel

set_option maxHeartbeats 8000000 in
set_option maxRecDepth 10000 in
theorem ends_2 (at_ : Int) (w : World) (sig : Sig w) :
    Calls Tryd.prog 4 #[.int .i64 2, .int .i64 at_] w fun e w' => e = .returned (.bool true) ∧ Below w.heap.size w w' := by
  have SG := hide sig
  clear sig
  have hAnd := and_65535 at_
  have hm0 : 0 ≤ at_ % 65536 := Int.emod_nonneg _ (by decide)
  have hm1 : at_ % 65536 < 65536 := Int.emod_lt_of_pos _ (by decide)
  obtain ⟨q, hq⟩ : ∃ q : Nat, at_ % 65536 = (q : Int) := ⟨(at_ % 65536).toNat, by omega⟩
  rw [hq] at hAnd hm0 hm1
  clear hq
  obtain ⟨m, hm, hml⟩ : ∃ m : Nat, (q : Int).tmod 11 = (m : Int) ∧ m < 11 := by
    refine ⟨q % 11, ?_, Nat.mod_lt _ (by decide)⟩
    rw [Int.tmod_eq_emod_of_nonneg (by omega)]
    omega
  have hc := ends_calc2 m hml
  have hw1 : IntKind.i64.wrap (m : Int) = (m : Int) := i64_in (by omega) (by omega)
  have hw2 : IntKind.i64.wrap (1 + (m : Int)) = 1 + (m : Int) := i64_in (by omega) (by omega)
  have s1 : 1 + (m : Int) ≤ 11 := by omega
  have s2 : 0 ≤ 1 + (m : Int) := by omega
  have s4 : (1 + (m : Int)).toNat = m + 1 := by omega
  have ex : (ByteArray.mk #[97, 32, 105, 110, 32, 40, 49, 46, 46, 50, 93]).extract 0 (m + 1) = ByteArray.mk (fendL2.take (m + 1)).toArray := (lext_eq fendL2 0 (m + 1)).trans (by simp)
  have hll : (fendL2.take (m + 1)).length ≤ 1000 := by rw [List.length_take]; have : fendL2.length = 11 := rfl; omega
  have P1 := hide (fun w sg => parse_any (fendL2.take (m + 1)) hll w sg)
  have P2 := hide (fun w => qparse_any (fendL2.take (m + 1)) hll w)
  clear hll
  generalize parseT (fendL2.take (m + 1)) = X at *
  obtain ⟨xt, n, e0⟩ := X
  unfold fendB at hc
  simp only [Bool.and_eq_true, Bool.or_eq_true, decide_eq_true_eq] at hc
  obtain ⟨hc1, hc2⟩ := hc
  have c1 : n ≤ 1 + (m : Int) := by omega
  have c2 : (1 + (m : Int) < 11) ∨ e0 = 0 := by omega
  clear hc1 hc2
  generalize fendL2.take (m + 1) = Y at *
  go_enter Tryd.func4, Tryd.ntmps4
  go_wp2_with fail
  refine (unhide P1 _ ((unhide SG).below (below1 _ _))).mono ?_
  rintro e w1 ⟨⟨A, rfl, hinA, -⟩, b1⟩
  have B1 := bstep (below1 _ _) b1
  obtain ⟨fk, fb, fm, fs, ft, flo, fhi, fa, fl, fc, fkid, rfl⟩ := hinA.form
  clear hinA b1
  dsimp only [XT.val]
  go_wp2_with fail
  refine (unhide P2 _).mono ?_
  rintro e w2 ⟨⟨C, rfl, hinC, -⟩, b2⟩
  obtain ⟨hk, hb, hm, hs, ht, hlo, hhi, ha, hl, hc, hkid, rfl⟩ := hinC.form
  have B2 := hide (bstep (bstep (bstep B1 (below1 _ _)) b2) (below1 w2 (Obj.cells #[.int .i64 hk, .bool hb, .int .i64 hm, .int .i64 hs, .string ht, .bool hlo, .bool hhi, .slice ha hl hc] 28)))
  clear hinC b2 B1
  dsimp only [XT.val]
  rcases c2 with c2 | rfl
  · go_wp2_with fail
    refine (fknown_any _ ((unhide SG).below (unhide B2))).mono ?_
    rintro e w3 ⟨rfl, b3⟩
    go_wp2_with fail
    go_ret
    exact ⟨rfl, bstep (unhide B2) b3⟩
  · by_cases c3 : 1 + (m : Int) < 11
    · go_wp2_with fail
      refine (fknown_any _ ((unhide SG).below (unhide B2))).mono ?_
      rintro e w3 ⟨rfl, b3⟩
      go_wp2_with fail
      go_ret
      exact ⟨rfl, bstep (unhide B2) b3⟩
    · go_wp2_with fail
      refine (fknown_any _ ((unhide SG).below (unhide B2))).mono ?_
      rintro e w3 ⟨rfl, b3⟩
      go_wp2_with fail
      go_ret
      exact ⟨rfl, bstep (unhide B2) b3⟩

def fendL3 : List UInt8 := [97, 32, 43, 32, 98, 32, 42, 32, 45, 99]
set_option maxRecDepth 100000 in
theorem ends_calc3 : ∀ m, m < 10 → fendB 10 (m + 1) (parseT (fendL3.take (m + 1))) = true := by decide +kernel

set_option maxHeartbeats 8000000 in
set_option maxRecDepth 10000 in
theorem ends_3 (at_ : Int) (w : World) (sig : Sig w) :
    Calls Tryd.prog 4 #[.int .i64 3, .int .i64 at_] w fun e w' => e = .returned (.bool true) ∧ Below w.heap.size w w' := by
  have SG := hide sig
  clear sig
  have hAnd := and_65535 at_
  have hm0 : 0 ≤ at_ % 65536 := Int.emod_nonneg _ (by decide)
  have hm1 : at_ % 65536 < 65536 := Int.emod_lt_of_pos _ (by decide)
  obtain ⟨q, hq⟩ : ∃ q : Nat, at_ % 65536 = (q : Int) := ⟨(at_ % 65536).toNat, by omega⟩
  rw [hq] at hAnd hm0 hm1
  clear hq
  obtain ⟨m, hm, hml⟩ : ∃ m : Nat, (q : Int).tmod 10 = (m : Int) ∧ m < 10 := by
    refine ⟨q % 10, ?_, Nat.mod_lt _ (by decide)⟩
    rw [Int.tmod_eq_emod_of_nonneg (by omega)]
    omega
  have hc := ends_calc3 m hml
  have hw1 : IntKind.i64.wrap (m : Int) = (m : Int) := i64_in (by omega) (by omega)
  have hw2 : IntKind.i64.wrap (1 + (m : Int)) = 1 + (m : Int) := i64_in (by omega) (by omega)
  have s1 : 1 + (m : Int) ≤ 10 := by omega
  have s2 : 0 ≤ 1 + (m : Int) := by omega
  have s4 : (1 + (m : Int)).toNat = m + 1 := by omega
  have ex : (ByteArray.mk #[97, 32, 43, 32, 98, 32, 42, 32, 45, 99]).extract 0 (m + 1) = ByteArray.mk (fendL3.take (m + 1)).toArray := (lext_eq fendL3 0 (m + 1)).trans (by simp)
  have hll : (fendL3.take (m + 1)).length ≤ 1000 := by rw [List.length_take]; have : fendL3.length = 10 := rfl; omega
  have P1 := hide (fun w sg => parse_any (fendL3.take (m + 1)) hll w sg)
  have P2 := hide (fun w => qparse_any (fendL3.take (m + 1)) hll w)
  clear hll
  generalize parseT (fendL3.take (m + 1)) = X at *
  obtain ⟨xt, n, e0⟩ := X
  unfold fendB at hc
  simp only [Bool.and_eq_true, Bool.or_eq_true, decide_eq_true_eq] at hc
  obtain ⟨hc1, hc2⟩ := hc
  have c1 : n ≤ 1 + (m : Int) := by omega
  have c2 : (1 + (m : Int) < 10) ∨ e0 = 0 := by omega
  clear hc1 hc2
  generalize fendL3.take (m + 1) = Y at *
  go_enter Tryd.func4, Tryd.ntmps4
  go_wp2_with fail
  refine (unhide P1 _ ((unhide SG).below (below1 _ _))).mono ?_
  rintro e w1 ⟨⟨A, rfl, hinA, -⟩, b1⟩
  have B1 := bstep (below1 _ _) b1
  obtain ⟨fk, fb, fm, fs, ft, flo, fhi, fa, fl, fc, fkid, rfl⟩ := hinA.form
  clear hinA b1
  dsimp only [XT.val]
  go_wp2_with fail
  refine (unhide P2 _).mono ?_
  rintro e w2 ⟨⟨C, rfl, hinC, -⟩, b2⟩
  obtain ⟨hk, hb, hm, hs, ht, hlo, hhi, ha, hl, hc, hkid, rfl⟩ := hinC.form
  have B2 := hide (bstep (bstep (bstep B1 (below1 _ _)) b2) (below1 w2 (Obj.cells #[.int .i64 hk, .bool hb, .int .i64 hm, .int .i64 hs, .string ht, .bool hlo, .bool hhi, .slice ha hl hc] 28)))
  clear hinC b2 B1
  dsimp only [XT.val]
  rcases c2 with c2 | rfl
  · go_wp2_with fail
    refine (fknown_any _ ((unhide SG).below (unhide B2))).mono ?_
    rintro e w3 ⟨rfl, b3⟩
    go_wp2_with fail
    go_ret
    exact ⟨rfl, bstep (unhide B2) b3⟩
  · by_cases c3 : 1 + (m : Int) < 10
    · go_wp2_with fail
      refine (fknown_any _ ((unhide SG).below (unhide B2))).mono ?_
      rintro e w3 ⟨rfl, b3⟩
      go_wp2_with fail
      go_ret
      exact ⟨rfl, bstep (unhide B2) b3⟩
    · go_wp2_with fail
      refine (fknown_any _ ((unhide SG).below (unhide B2))).mono ?_
      rintro e w3 ⟨rfl, b3⟩
      go_wp2_with fail
      go_ret
      exact ⟨rfl, bstep (unhide B2) b3⟩

def fendL4 : List UInt8 := [110, 111, 116, 40, 97, 32, 97, 110, 100, 32, 98, 41]
set_option maxRecDepth 100000 in
theorem ends_calc4 : ∀ m, m < 12 → fendB 12 (m + 1) (parseT (fendL4.take (m + 1))) = true := by decide +kernel

set_option maxHeartbeats 8000000 in
set_option maxRecDepth 10000 in
theorem ends_4 (at_ : Int) (w : World) (sig : Sig w) :
    Calls Tryd.prog 4 #[.int .i64 4, .int .i64 at_] w fun e w' => e = .returned (.bool true) ∧ Below w.heap.size w w' := by
  have SG := hide sig
  clear sig
  have hAnd := and_65535 at_
  have hm0 : 0 ≤ at_ % 65536 := Int.emod_nonneg _ (by decide)
  have hm1 : at_ % 65536 < 65536 := Int.emod_lt_of_pos _ (by decide)
  obtain ⟨q, hq⟩ : ∃ q : Nat, at_ % 65536 = (q : Int) := ⟨(at_ % 65536).toNat, by omega⟩
  rw [hq] at hAnd hm0 hm1
  clear hq
  obtain ⟨m, hm, hml⟩ : ∃ m : Nat, (q : Int).tmod 12 = (m : Int) ∧ m < 12 := by
    refine ⟨q % 12, ?_, Nat.mod_lt _ (by decide)⟩
    rw [Int.tmod_eq_emod_of_nonneg (by omega)]
    omega
  have hc := ends_calc4 m hml
  have hw1 : IntKind.i64.wrap (m : Int) = (m : Int) := i64_in (by omega) (by omega)
  have hw2 : IntKind.i64.wrap (1 + (m : Int)) = 1 + (m : Int) := i64_in (by omega) (by omega)
  have s1 : 1 + (m : Int) ≤ 12 := by omega
  have s2 : 0 ≤ 1 + (m : Int) := by omega
  have s4 : (1 + (m : Int)).toNat = m + 1 := by omega
  have ex : (ByteArray.mk #[110, 111, 116, 40, 97, 32, 97, 110, 100, 32, 98, 41]).extract 0 (m + 1) = ByteArray.mk (fendL4.take (m + 1)).toArray := (lext_eq fendL4 0 (m + 1)).trans (by simp)
  have hll : (fendL4.take (m + 1)).length ≤ 1000 := by rw [List.length_take]; have : fendL4.length = 12 := rfl; omega
  have P1 := hide (fun w sg => parse_any (fendL4.take (m + 1)) hll w sg)
  have P2 := hide (fun w => qparse_any (fendL4.take (m + 1)) hll w)
  clear hll
  generalize parseT (fendL4.take (m + 1)) = X at *
  obtain ⟨xt, n, e0⟩ := X
  unfold fendB at hc
  simp only [Bool.and_eq_true, Bool.or_eq_true, decide_eq_true_eq] at hc
  obtain ⟨hc1, hc2⟩ := hc
  have c1 : n ≤ 1 + (m : Int) := by omega
  have c2 : (1 + (m : Int) < 12) ∨ e0 = 0 := by omega
  clear hc1 hc2
  generalize fendL4.take (m + 1) = Y at *
  go_enter Tryd.func4, Tryd.ntmps4
  go_wp2_with fail
  refine (unhide P1 _ ((unhide SG).below (below1 _ _))).mono ?_
  rintro e w1 ⟨⟨A, rfl, hinA, -⟩, b1⟩
  have B1 := bstep (below1 _ _) b1
  obtain ⟨fk, fb, fm, fs, ft, flo, fhi, fa, fl, fc, fkid, rfl⟩ := hinA.form
  clear hinA b1
  dsimp only [XT.val]
  go_wp2_with fail
  refine (unhide P2 _).mono ?_
  rintro e w2 ⟨⟨C, rfl, hinC, -⟩, b2⟩
  obtain ⟨hk, hb, hm, hs, ht, hlo, hhi, ha, hl, hc, hkid, rfl⟩ := hinC.form
  have B2 := hide (bstep (bstep (bstep B1 (below1 _ _)) b2) (below1 w2 (Obj.cells #[.int .i64 hk, .bool hb, .int .i64 hm, .int .i64 hs, .string ht, .bool hlo, .bool hhi, .slice ha hl hc] 28)))
  clear hinC b2 B1
  dsimp only [XT.val]
  rcases c2 with c2 | rfl
  · go_wp2_with fail
    refine (fknown_any _ ((unhide SG).below (unhide B2))).mono ?_
    rintro e w3 ⟨rfl, b3⟩
    go_wp2_with fail
    go_ret
    exact ⟨rfl, bstep (unhide B2) b3⟩
  · by_cases c3 : 1 + (m : Int) < 12
    · go_wp2_with fail
      refine (fknown_any _ ((unhide SG).below (unhide B2))).mono ?_
      rintro e w3 ⟨rfl, b3⟩
      go_wp2_with fail
      go_ret
      exact ⟨rfl, bstep (unhide B2) b3⟩
    · go_wp2_with fail
      refine (fknown_any _ ((unhide SG).below (unhide B2))).mono ?_
      rintro e w3 ⟨rfl, b3⟩
      go_wp2_with fail
      go_ret
      exact ⟨rfl, bstep (unhide B2) b3⟩

set_option maxHeartbeats 1000000 in
theorem feelEnds_walk (k at_ : Int) (hk : (Lit.int .i64 k).wf = true) (ha : (Lit.int .i64 at_).wf = true) (w : World) (sig : Sig w) :
    Calls Tryd.prog 4 #[.int .i64 k, .int .i64 at_] w fun e w' => e = .returned (.bool true) ∧ Below w.heap.size w w' := by
  clear hk ha
  by_cases h1 : k < 0
  · clear sig
    go_enter Tryd.func4, Tryd.ntmps4
    go_wp2_with fail
    go_ret
    exact ⟨rfl, below1 _ _⟩
  by_cases h2 : 5 ≤ k
  · clear sig
    go_enter Tryd.func4, Tryd.ntmps4
    go_wp2_with fail
    go_ret
    exact ⟨rfl, below1 _ _⟩
  have hw : k = 0 ∨ k = 1 ∨ k = 2 ∨ k = 3 ∨ k = 4 := by omega
  rcases hw with rfl | rfl | rfl | rfl | rfl
  · exact ends_0 at_ w sig
  · exact ends_1 at_ w sig
  · exact ends_2 at_ w sig
  · exact ends_3 at_ w sig
  · exact ends_4 at_ w sig
end Go.Proofs.YtdlfgnmcokdceabDoor

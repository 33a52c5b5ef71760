/- The walk of LexNumbers: digits, and digits behind a dot, are one number. -/
import Derived.Test.YtlcckhlkmnnjdaaDoorLexSignsW
import Derived.Test.YtlcckhlkmnnjdaaDoorLNumM
import Derived.Test.YtlcckhlkmnnjdaaDoorLDig
namespace Go.Proofs.YtlcckhlkmnnjdaaDoor
open Go.RowKit
set_option linter.unusedVariables false

set_option maxHeartbeats 3200000 in
set_option maxRecDepth 10000 in
theorem numbers1 (a b : Nat) (h1 : a ≤ 99999) (h2 : b ≤ 99999) (w : World) (sig : Sig w) :
    Calls Tryd.prog 8 #[.int .i64 a, .int .i64 b, .int .i64 1] w fun e w' => e = .returned (.bool true) ∧ Below w.heap.size w w' := by
  have SG := hide sig
  obtain ⟨ha, la, la5⟩ := dgF_ok 5 a (by omega) (by omega)
  obtain ⟨hb, lb, lb5⟩ := dgF_ok 5 b (by omega) (by omega)
  have DA := hide (fun w => ldigits_any 5 a w (by omega) (by omega) (by omega))
  have DB := hide (fun w => ldigits_any 5 b w (by omega) (by omega) (by omega))
  have M1 := hide (lexT_dot1 ha hb la la5 lb lb5)
  have M2 := hide (lexT_dot1e ha la la5)
  clear sig ha hb
  generalize dgF 5 a = A at *
  generalize dgF 5 b = B at *
  have RA : Hid (∀ k, (⟨(A ++ repL 46 k).toArray⟩ : ByteArray) ++ ⟨[46].toArray⟩ = ⟨(A ++ repL 46 (k + 1)).toArray⟩) := by
    intro k
    rw [lba_app, List.append_assoc, repL_snoc]
  have RL : Hid (∀ k, (A ++ repL 46 k).length = A.length + k) := by
    intro k
    rw [List.length_append, repL_len]
  have R0 : Hid (A ++ repL 46 0 = A) := by simp [repL, Hid]
  have BA := hide (lba_app (A ++ repL 46 1) B)
  have L1 := hide (fun w => lex_all ((A ++ repL 46 1) ++ B) w (by have := unhide RL 1; rw [List.length_append]; omega))
  have L2 := hide (fun w => lex_all (A ++ repL 46 1) w (by have := unhide RL 1; omega))
  rw [unhide M1] at L1
  rw [unhide M2] at L2
  generalize hTT : (A ++ repL 46 1) ++ B = T at *
  clear hTT
  generalize hB : w.heap.size = B0 at *
  have HB := hide hB
  clear hB
  go_enter Tryd.func8, Tryd.ntmps8
  go_wp2_with fail
  refine (unhide DA _).mono ?_
  rintro e w0 ⟨rfl, b0⟩
  rw [unhide HB] at b0
  go_wp2_with fail
  go_loop [7, 8] (fun s i => ∃ k : Nat, k ≤ 1 ∧ i = .int .i64 k ∧ s = .string ⟨(A ++ repL 46 k).toArray⟩) (fun _ i => 1 - (intOf i).toNat)
  case atStart => exact ⟨0, by omega, rfl, by rw [unhide R0]⟩
  case round =>
    obtain ⟨k, hk, rfl, rfl⟩ := hrel
    by_cases hlt : k < 1
    · have ra := unhide RA k
      have rl := unhide RL k
      generalize A ++ repL 46 k = X at *
      go_wp2_with fail
      go_round
      case rel => exact ⟨k + 1, by omega, by go_num, rfl⟩
      case measure => simp [intOf]; omega
    have hkd : k = 1 := by omega
    subst hkd
    have ba := unhide BA
    have rl := unhide RL 1
    generalize A ++ repL 46 1 = S at *
    go_wp2_with fail
    refine (unhide DB _).mono ?_
    rintro e w1 ⟨rfl, b1⟩
    have z0 : B0 ≤ w0.heap.size := by have := b0.size; rw [unhide HB] at this; exact this
    have c1 : Below B0 w w1 := b0.trans (b1.mono z0)
    clear b0 b1 z0
    go_wp2_with fail
    have sg1 : Sig w1 := (unhide SG).below (by rw [unhide HB]; exact c1)
    refine (unhide L1 _ sg1).mono ?_
    rintro e w2 ⟨⟨v1, rfl, own1⟩, b2⟩
    have z1 : B0 ≤ w1.heap.size := by have := c1.size; rw [unhide HB] at this; exact this
    have c2 : Below B0 w w2 := c1.trans (b2.mono z1)
    clear c1 b2 z1 sg1 ba
    dsimp only at own1
    go_wp2_with fail
    have sg2 : Sig w2 := (unhide SG).below (by rw [unhide HB]; exact c2)
    refine (unhide L2 _ sg2).mono ?_
    rintro e w3 ⟨⟨v2, rfl, own2⟩, b3⟩
    have z2 : B0 ≤ w2.heap.size := by have := c2.size; rw [unhide HB] at this; exact this
    have c3 : Below B0 w w3 := c2.trans (b3.mono z2)
    have own1 := owns_below own1 b3
    clear c2 b3 z2 sg2 own2
    obtain ⟨g, cap, rfl, -, tt⟩ := own_at own1 (by simp)
    obtain ⟨p0, p1, p2, p3⟩ := tt 0 (by simp)
    simp only [List.getElem_cons_zero, Nat.reduceMul] at p1
    clear tt own1
    have z3 : B0 ≤ w3.heap.size := by have := c3.size; rw [unhide HB] at this; exact this
    go_wp2_with fail
    refine (unhide DA _).mono ?_
    rintro e w4 ⟨rfl, b4⟩
    have c4 : Below B0 w w4 := c3.trans (b4.mono z3)
    clear c3 b4
    have z4 : B0 ≤ w4.heap.size := by have := c4.size; rw [unhide HB] at this; exact this
    go_wp2_with fail
    have sg4 : Sig w4 := (unhide SG).below (by rw [unhide HB]; exact c4)
    refine (lknown_any _ sg4).mono ?_
    rintro e w7 ⟨rfl, b7⟩
    go_wp2_with fail
    go_ret
    exact ⟨rfl, c4.trans (b7.mono z4)⟩

set_option maxHeartbeats 3200000 in
set_option maxRecDepth 10000 in
theorem numbers2 (a b : Nat) (h1 : a ≤ 99999) (h2 : b ≤ 99999) (w : World) (sig : Sig w) :
    Calls Tryd.prog 8 #[.int .i64 a, .int .i64 b, .int .i64 2] w fun e w' => e = .returned (.bool true) ∧ Below w.heap.size w w' := by
  have SG := hide sig
  obtain ⟨ha, la, la5⟩ := dgF_ok 5 a (by omega) (by omega)
  obtain ⟨hb, lb, lb5⟩ := dgF_ok 5 b (by omega) (by omega)
  have DA := hide (fun w => ldigits_any 5 a w (by omega) (by omega) (by omega))
  have DB := hide (fun w => ldigits_any 5 b w (by omega) (by omega) (by omega))
  have M1 := hide (lexT_dot2 ha hb la la5 lb lb5)
  have M2 := hide (lexT_dot2e ha la la5)
  clear sig ha hb
  generalize dgF 5 a = A at *
  generalize dgF 5 b = B at *
  have RA : Hid (∀ k, (⟨(A ++ repL 46 k).toArray⟩ : ByteArray) ++ ⟨[46].toArray⟩ = ⟨(A ++ repL 46 (k + 1)).toArray⟩) := by
    intro k
    rw [lba_app, List.append_assoc, repL_snoc]
  have RL : Hid (∀ k, (A ++ repL 46 k).length = A.length + k) := by
    intro k
    rw [List.length_append, repL_len]
  have R0 : Hid (A ++ repL 46 0 = A) := by simp [repL, Hid]
  have BA := hide (lba_app (A ++ repL 46 2) B)
  have L1 := hide (fun w => lex_all ((A ++ repL 46 2) ++ B) w (by have := unhide RL 2; rw [List.length_append]; omega))
  have L2 := hide (fun w => lex_all (A ++ repL 46 2) w (by have := unhide RL 2; omega))
  rw [unhide M1] at L1
  rw [unhide M2] at L2
  generalize hTT : (A ++ repL 46 2) ++ B = T at *
  clear hTT
  generalize hB : w.heap.size = B0 at *
  have HB := hide hB
  clear hB
  go_enter Tryd.func8, Tryd.ntmps8
  go_wp2_with fail
  refine (unhide DA _).mono ?_
  rintro e w0 ⟨rfl, b0⟩
  rw [unhide HB] at b0
  go_wp2_with fail
  go_loop [7, 8] (fun s i => ∃ k : Nat, k ≤ 2 ∧ i = .int .i64 k ∧ s = .string ⟨(A ++ repL 46 k).toArray⟩) (fun _ i => 2 - (intOf i).toNat)
  case atStart => exact ⟨0, by omega, rfl, by rw [unhide R0]⟩
  case round =>
    obtain ⟨k, hk, rfl, rfl⟩ := hrel
    by_cases hlt : k < 2
    · have ra := unhide RA k
      have rl := unhide RL k
      generalize A ++ repL 46 k = X at *
      go_wp2_with fail
      go_round
      case rel => exact ⟨k + 1, by omega, by go_num, rfl⟩
      case measure => simp [intOf]; omega
    have hkd : k = 2 := by omega
    subst hkd
    have ba := unhide BA
    have rl := unhide RL 2
    generalize A ++ repL 46 2 = S at *
    go_wp2_with fail
    refine (unhide DB _).mono ?_
    rintro e w1 ⟨rfl, b1⟩
    have z0 : B0 ≤ w0.heap.size := by have := b0.size; rw [unhide HB] at this; exact this
    have c1 : Below B0 w w1 := b0.trans (b1.mono z0)
    clear b0 b1 z0
    go_wp2_with fail
    have sg1 : Sig w1 := (unhide SG).below (by rw [unhide HB]; exact c1)
    refine (unhide L1 _ sg1).mono ?_
    rintro e w2 ⟨⟨v1, rfl, own1⟩, b2⟩
    have z1 : B0 ≤ w1.heap.size := by have := c1.size; rw [unhide HB] at this; exact this
    have c2 : Below B0 w w2 := c1.trans (b2.mono z1)
    clear c1 b2 z1 sg1 ba
    dsimp only at own1
    go_wp2_with fail
    have sg2 : Sig w2 := (unhide SG).below (by rw [unhide HB]; exact c2)
    refine (unhide L2 _ sg2).mono ?_
    rintro e w3 ⟨⟨v2, rfl, own2⟩, b3⟩
    have z2 : B0 ≤ w2.heap.size := by have := c2.size; rw [unhide HB] at this; exact this
    have c3 : Below B0 w w3 := c2.trans (b3.mono z2)
    have own1 := owns_below own1 b3
    clear c2 b3 z2 sg2 own2
    obtain ⟨g, cap, rfl, -, tt⟩ := own_at own1 (by simp)
    obtain ⟨p0, p1, p2, p3⟩ := tt 1 (by simp)
    simp only [List.getElem_cons_succ, List.getElem_cons_zero, Nat.reduceMul, Nat.reduceAdd] at p2
    clear tt own1
    have z3 : B0 ≤ w3.heap.size := by have := c3.size; rw [unhide HB] at this; exact this
    go_wp2_with fail
    have sg4 : Sig w3 := (unhide SG).below (by rw [unhide HB]; exact c3)
    refine (lknown_any _ sg4).mono ?_
    rintro e w7 ⟨rfl, b7⟩
    go_wp2_with fail
    go_ret
    exact ⟨rfl, c3.trans (b7.mono z3)⟩

set_option maxHeartbeats 1600000 in
theorem lexNumbers_walk (a b c : Int) (_ : (Lit.int .i64 a).wf = true) (_ : (Lit.int .i64 b).wf = true) (_ : (Lit.int .i64 c).wf = true) (w : World) (sig : Sig w) :
    Calls Tryd.prog 8 #[.int .i64 a, .int .i64 b, .int .i64 c] w fun e w' => e = .returned (.bool true) ∧ Below w.heap.size w w' := by
  by_cases h0 : a < 0
  · clear sig
    go_enter Tryd.func8, Tryd.ntmps8
    go_wp2_with fail
    go_ret
    exact ⟨rfl, Below.refl _ _⟩
  by_cases h1 : 99999 < a
  · clear sig
    go_enter Tryd.func8, Tryd.ntmps8
    go_wp2_with fail
    go_ret
    exact ⟨rfl, Below.refl _ _⟩
  by_cases h2 : b < 0
  · clear sig
    go_enter Tryd.func8, Tryd.ntmps8
    go_wp2_with fail
    go_ret
    exact ⟨rfl, Below.refl _ _⟩
  by_cases h3 : 99999 < b
  · clear sig
    go_enter Tryd.func8, Tryd.ntmps8
    go_wp2_with fail
    go_ret
    exact ⟨rfl, Below.refl _ _⟩
  by_cases h4 : c < 1
  · clear sig
    go_enter Tryd.func8, Tryd.ntmps8
    go_wp2_with fail
    go_ret
    exact ⟨rfl, Below.refl _ _⟩
  by_cases h5 : 2 < c
  · clear sig
    go_enter Tryd.func8, Tryd.ntmps8
    go_wp2_with fail
    go_ret
    exact ⟨rfl, Below.refl _ _⟩
  obtain ⟨n, rfl⟩ : ∃ n : Nat, a = n := ⟨a.toNat, by omega⟩
  obtain ⟨m, rfl⟩ : ∃ m : Nat, b = m := ⟨b.toNat, by omega⟩
  rcases (show c = 1 ∨ c = 2 by omega) with rfl | rfl
  · exact numbers1 n m (by omega) (by omega) w sig
  · exact numbers2 n m (by omega) (by omega) w sig
end Go.Proofs.YtlcckhlkmnnjdaaDoor

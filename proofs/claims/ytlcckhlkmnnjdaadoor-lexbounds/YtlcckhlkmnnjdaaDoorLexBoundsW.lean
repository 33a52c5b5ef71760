/- The walk of LexBounds: texts, names, rows of tokens up to their limits. -/
import Derived.Test.YtlcckhlkmnnjdaaDoorLexTellsW
import Derived.Test.YtlcckhlkmnnjdaaDoorLBound
namespace Go.Proofs.YtlcckhlkmnnjdaaDoor
open Go.RowKit
set_option linter.unusedVariables false

theorem rep_app (c : UInt8) (k : Nat) : (⟨(repL c k).toArray⟩ : ByteArray) ++ ⟨[c].toArray⟩ = ⟨(repL c (k + 1)).toArray⟩ := by
  rw [← repL_snoc]
  apply ByteArray.ext
  simp
theorem qu_app1 (n : Nat) : (⟨[34].toArray⟩ : ByteArray) ++ ⟨(repL 97 n).toArray⟩ = ⟨(34 :: repL 97 n).toArray⟩ := by
  apply ByteArray.ext
  simp
theorem qu_app2 (n : Nat) : (⟨(34 :: repL 97 n).toArray⟩ : ByteArray) ++ ⟨[34].toArray⟩ = ⟨(quL n).toArray⟩ := by
  apply ByteArray.ext
  simp [quL]

set_option maxHeartbeats 3200000 in
set_option maxRecDepth 10000 in
theorem bounds0 (n : Nat) (h1 : 1 ≤ n) (h2 : n ≤ 250) (w : World) (sig : Sig w) :
    Calls Tryd.prog 6 #[.int .i64 n, .int .i64 0] w fun e w' => e = .returned (.bool true) ∧ Below w.heap.size w w' := by
  have SG := hide sig
  have ps := bd_parts (bd_get bd0 h2)
  have L1 := hide (fun w => lex_all (repL 97 n) w (by have := repL_len 97 n; omega))
  have hlen : (repL 97 n).length = n := repL_len 97 n
  have PS := hide ps
  clear sig ps
  generalize lexT (repL 97 n) = R at *
  obtain ⟨ts, p, er⟩ := R
  generalize hB : w.heap.size = B at *
  have HB := hide hB
  clear hB
  go_enter Tryd.func6, Tryd.ntmps6
  go_wp2_with fail
  go_loopw [5, 6] (fun s i wr => ∃ k : Nat, k ≤ n ∧ i = .int .i64 k ∧ s = .string ⟨(repL 97 k).toArray⟩ ∧ Below B w wr) (fun _ i _ => n - (intOf i).toNat)
  case atStart => exact ⟨0, by omega, rfl, rfl, Below.refl _ _⟩
  case round =>
    obtain ⟨k, hk, rfl, rfl, bel⟩ := hrel
    have zB : B ≤ wr.heap.size := by have := bel.size; rw [unhide HB] at this; exact this
    have hkl := repL_len 97 k
    by_cases hlt : k < n
    · have RA := rep_app 97 k
      generalize repL 97 k = X at *
      go_wp2_with fail
      go_roundw
      case rel => exact ⟨k + 1, by omega, by go_num, rfl, bel.alloc zB _⟩
      case measure => simp [intOf]; omega
    · have hkn : k = n := by omega
      subst hkn
      generalize repL 97 k = Z at *
      go_wp2_with fail
      have sgr : Sig wr := (unhide SG).below (by rw [unhide HB]; exact bel)
      refine (unhide L1 _ sgr).mono ?_
      rintro e V ⟨⟨v, rfl, own⟩, b1⟩
      clear own
      dsimp only
      have belV : Below B w V := bel.trans (b1.mono zB)
      have zV : B ≤ V.heap.size := by have := belV.size; rw [unhide HB] at this; exact this
      have sgV : ∀ o, Sig (V.alloc o) := fun o => (unhide SG).below (by rw [unhide HB]; exact belV.alloc zV o)
      rcases unhide PS with ⟨e0, hm, hz⟩ | ⟨e0, hm⟩
      · (try dsimp only at e0)
        subst e0
        clear PS L1 b1
        go_wp2_with fail
        refine (lknown_any _ (sgV _)).mono ?_
        rintro e w7 ⟨rfl, b7⟩
        go_wp2_with fail
        go_ret
        exact ⟨rfl, (belV.alloc zV _).trans (b7.mono (by simp; omega))⟩
      · (try dsimp only at e0)
        subst e0
        clear PS L1 b1
        have hnm : 8 < k := Nat.lt_of_not_le (fun h => by have := hm h; omega)
        clear hm
        go_wp2_with fail
        refine (lknown_any _ (sgV _)).mono ?_
        rintro e w7 ⟨rfl, b7⟩
        go_wp2_with fail
        go_ret
        exact ⟨rfl, (belV.alloc zV _).trans (b7.mono (by simp; omega))⟩

set_option maxHeartbeats 3200000 in
set_option maxRecDepth 10000 in
theorem bounds1 (n : Nat) (h1 : 1 ≤ n) (h2 : n ≤ 250) (w : World) (sig : Sig w) :
    Calls Tryd.prog 6 #[.int .i64 n, .int .i64 1] w fun e w' => e = .returned (.bool true) ∧ Below w.heap.size w w' := by
  have SG := hide sig
  have ps := bd_parts (bd_get bd1 h2)
  have L1 := hide (fun w => lex_all (quL n) w (by have := quL_len n; omega))
  have hlen : (quL n).length = n + 2 := quL_len n
  have PS := hide ps
  clear sig ps
  generalize lexT (quL n) = R at *
  obtain ⟨ts, p, er⟩ := R
  generalize hB : w.heap.size = B at *
  have HB := hide hB
  clear hB
  go_enter Tryd.func6, Tryd.ntmps6
  go_wp2_with fail
  go_loopw [5, 6] (fun s i wr => ∃ k : Nat, k ≤ n ∧ i = .int .i64 k ∧ s = .string ⟨(repL 97 k).toArray⟩ ∧ Below B w wr) (fun _ i _ => n - (intOf i).toNat)
  case atStart => exact ⟨0, by omega, rfl, rfl, Below.refl _ _⟩
  case round =>
    obtain ⟨k, hk, rfl, rfl, bel⟩ := hrel
    have zB : B ≤ wr.heap.size := by have := bel.size; rw [unhide HB] at this; exact this
    have hkl := repL_len 97 k
    by_cases hlt : k < n
    · have RA := rep_app 97 k
      generalize repL 97 k = X at *
      go_wp2_with fail
      go_roundw
      case rel => exact ⟨k + 1, by omega, by go_num, rfl, bel.alloc zB _⟩
      case measure => simp [intOf]; omega
    · have hkn : k = n := by omega
      subst hkn
      have QA1 := qu_app1 k
      have QA2 := qu_app2 k
      have hq1 : (34 :: repL 97 k).length = k + 1 := by simp [repL_len]
      generalize 34 :: repL 97 k = Y at *
      generalize repL 97 k = X at *
      generalize quL k = Z at *
      go_wp2_with fail
      have sgr : Sig wr := (unhide SG).below (by rw [unhide HB]; exact bel)
      refine (unhide L1 _ sgr).mono ?_
      rintro e V ⟨⟨v, rfl, own⟩, b1⟩
      clear own
      dsimp only
      have belV : Below B w V := bel.trans (b1.mono zB)
      have zV : B ≤ V.heap.size := by have := belV.size; rw [unhide HB] at this; exact this
      have sgV : ∀ o, Sig (V.alloc o) := fun o => (unhide SG).below (by rw [unhide HB]; exact belV.alloc zV o)
      rcases unhide PS with ⟨e0, hm, hz⟩ | ⟨e0, hm⟩
      · (try dsimp only at e0)
        subst e0
        clear PS L1 b1
        go_wp2_with fail
        refine (lknown_any _ (sgV _)).mono ?_
        rintro e w7 ⟨rfl, b7⟩
        go_wp2_with fail
        go_ret
        exact ⟨rfl, (belV.alloc zV _).trans (b7.mono (by simp; omega))⟩
      · (try dsimp only at e0)
        subst e0
        clear PS L1 b1
        have hnm : 16 < k := Nat.lt_of_not_le (fun h => by have := hm h; omega)
        clear hm
        go_wp2_with fail
        refine (lknown_any _ (sgV _)).mono ?_
        rintro e w7 ⟨rfl, b7⟩
        go_wp2_with fail
        go_ret
        exact ⟨rfl, (belV.alloc zV _).trans (b7.mono (by simp; omega))⟩

set_option maxHeartbeats 3200000 in
set_option maxRecDepth 10000 in
theorem bounds2 (n : Nat) (h1 : 1 ≤ n) (h2 : n ≤ 250) (w : World) (sig : Sig w) :
    Calls Tryd.prog 6 #[.int .i64 n, .int .i64 2] w fun e w' => e = .returned (.bool true) ∧ Below w.heap.size w w' := by
  have SG := hide sig
  have ps := bd_parts (bd_get bd2 h2)
  have L1 := hide (fun w => lex_all (repL 43 n) w (by have := repL_len 43 n; omega))
  have hlen : (repL 43 n).length = n := repL_len 43 n
  have PS := hide ps
  clear sig ps
  generalize lexT (repL 43 n) = R at *
  obtain ⟨ts, p, er⟩ := R
  generalize hB : w.heap.size = B at *
  have HB := hide hB
  clear hB
  go_enter Tryd.func6, Tryd.ntmps6
  go_wp2_with fail
  go_loopw [5, 6] (fun s i wr => ∃ k : Nat, k ≤ n ∧ i = .int .i64 k ∧ s = .string ⟨(repL 43 k).toArray⟩ ∧ Below B w wr) (fun _ i _ => n - (intOf i).toNat)
  case atStart => exact ⟨0, by omega, rfl, rfl, Below.refl _ _⟩
  case round =>
    obtain ⟨k, hk, rfl, rfl, bel⟩ := hrel
    have zB : B ≤ wr.heap.size := by have := bel.size; rw [unhide HB] at this; exact this
    have hkl := repL_len 43 k
    by_cases hlt : k < n
    · have RA := rep_app 43 k
      generalize repL 43 k = X at *
      go_wp2_with fail
      go_roundw
      case rel => exact ⟨k + 1, by omega, by go_num, rfl, bel.alloc zB _⟩
      case measure => simp [intOf]; omega
    · have hkn : k = n := by omega
      subst hkn
      generalize repL 43 k = Z at *
      go_wp2_with fail
      have sgr : Sig wr := (unhide SG).below (by rw [unhide HB]; exact bel)
      refine (unhide L1 _ sgr).mono ?_
      rintro e V ⟨⟨v, rfl, own⟩, b1⟩
      clear own
      dsimp only
      have belV : Below B w V := bel.trans (b1.mono zB)
      have zV : B ≤ V.heap.size := by have := belV.size; rw [unhide HB] at this; exact this
      have sgV : ∀ o, Sig (V.alloc o) := fun o => (unhide SG).below (by rw [unhide HB]; exact belV.alloc zV o)
      rcases unhide PS with ⟨e0, hm, hz⟩ | ⟨e0, hm⟩
      · (try dsimp only at e0)
        subst e0
        clear PS L1 b1
        go_wp2_with fail
        refine (lknown_any _ (sgV _)).mono ?_
        rintro e w7 ⟨rfl, b7⟩
        go_wp2_with fail
        go_ret
        exact ⟨rfl, (belV.alloc zV _).trans (b7.mono (by simp; omega))⟩
      · (try dsimp only at e0)
        subst e0
        clear PS L1 b1
        have hnm : 60 < k := Nat.lt_of_not_le (fun h => by have := hm h; omega)
        clear hm
        go_wp2_with fail
        refine (lknown_any _ (sgV _)).mono ?_
        rintro e w7 ⟨rfl, b7⟩
        go_wp2_with fail
        go_ret
        exact ⟨rfl, (belV.alloc zV _).trans (b7.mono (by simp; omega))⟩

set_option maxHeartbeats 3200000 in
set_option maxRecDepth 10000 in
theorem bounds3 (n : Nat) (h1 : 1 ≤ n) (h2 : n ≤ 250) (w : World) (sig : Sig w) :
    Calls Tryd.prog 6 #[.int .i64 n, .int .i64 3] w fun e w' => e = .returned (.bool true) ∧ Below w.heap.size w w' := by
  have SG := hide sig
  have ps := bd_parts (bd_get bd3 h2)
  have L1 := hide (fun w => lex_all (repL 32 n) w (by have := repL_len 32 n; omega))
  have hlen : (repL 32 n).length = n := repL_len 32 n
  have PS := hide ps
  clear sig ps
  generalize lexT (repL 32 n) = R at *
  obtain ⟨ts, p, er⟩ := R
  generalize hB : w.heap.size = B at *
  have HB := hide hB
  clear hB
  go_enter Tryd.func6, Tryd.ntmps6
  go_wp2_with fail
  go_loopw [5, 6] (fun s i wr => ∃ k : Nat, k ≤ n ∧ i = .int .i64 k ∧ s = .string ⟨(repL 32 k).toArray⟩ ∧ Below B w wr) (fun _ i _ => n - (intOf i).toNat)
  case atStart => exact ⟨0, by omega, rfl, rfl, Below.refl _ _⟩
  case round =>
    obtain ⟨k, hk, rfl, rfl, bel⟩ := hrel
    have zB : B ≤ wr.heap.size := by have := bel.size; rw [unhide HB] at this; exact this
    have hkl := repL_len 32 k
    by_cases hlt : k < n
    · have RA := rep_app 32 k
      generalize repL 32 k = X at *
      go_wp2_with fail
      go_roundw
      case rel => exact ⟨k + 1, by omega, by go_num, rfl, bel.alloc zB _⟩
      case measure => simp [intOf]; omega
    · have hkn : k = n := by omega
      subst hkn
      generalize repL 32 k = Z at *
      go_wp2_with fail
      have sgr : Sig wr := (unhide SG).below (by rw [unhide HB]; exact bel)
      refine (unhide L1 _ sgr).mono ?_
      rintro e V ⟨⟨v, rfl, own⟩, b1⟩
      clear own
      dsimp only
      have belV : Below B w V := bel.trans (b1.mono zB)
      have zV : B ≤ V.heap.size := by have := belV.size; rw [unhide HB] at this; exact this
      have sgV : ∀ o, Sig (V.alloc o) := fun o => (unhide SG).below (by rw [unhide HB]; exact belV.alloc zV o)
      rcases unhide PS with ⟨e0, hm, hz⟩ | ⟨e0, hm⟩
      · (try dsimp only at e0)
        subst e0
        clear PS L1 b1
        go_wp2_with fail
        refine (lknown_any _ (sgV _)).mono ?_
        rintro e w7 ⟨rfl, b7⟩
        go_wp2_with fail
        go_ret
        exact ⟨rfl, (belV.alloc zV _).trans (b7.mono (by simp; omega))⟩
      · (try dsimp only at e0)
        subst e0
        clear PS L1 b1
        have hnm : 200 < k := Nat.lt_of_not_le (fun h => by have := hm h; omega)
        clear hm
        go_wp2_with fail
        refine (lknown_any _ (sgV _)).mono ?_
        rintro e w7 ⟨rfl, b7⟩
        go_wp2_with fail
        go_ret
        exact ⟨rfl, (belV.alloc zV _).trans (b7.mono (by simp; omega))⟩

set_option maxHeartbeats 1600000 in
theorem lexBounds_walk (a b : Int) (_ : (Lit.int .i64 a).wf = true) (_ : (Lit.int .i64 b).wf = true) (w : World) (sig : Sig w) :
    Calls Tryd.prog 6 #[.int .i64 a, .int .i64 b] w fun e w' => e = .returned (.bool true) ∧ Below w.heap.size w w' := by
  by_cases h1 : a < 1
  · clear sig
    go_enter Tryd.func6, Tryd.ntmps6
    go_wp2_with fail
    go_ret
    exact ⟨rfl, Below.refl _ _⟩
  by_cases h2 : 250 < a
  · clear sig
    go_enter Tryd.func6, Tryd.ntmps6
    go_wp2_with fail
    go_ret
    exact ⟨rfl, Below.refl _ _⟩
  by_cases h3 : b < 0
  · clear sig
    go_enter Tryd.func6, Tryd.ntmps6
    go_wp2_with fail
    go_ret
    exact ⟨rfl, Below.refl _ _⟩
  by_cases h4 : 3 < b
  · clear sig
    go_enter Tryd.func6, Tryd.ntmps6
    go_wp2_with fail
    go_ret
    exact ⟨rfl, Below.refl _ _⟩
  obtain ⟨n, rfl⟩ : ∃ n : Nat, a = n := ⟨a.toNat, by omega⟩
  rcases (show b = 0 ∨ b = 1 ∨ b = 2 ∨ b = 3 by omega) with rfl | rfl | rfl | rfl
  · exact bounds0 n (by omega) (by omega) w sig
  · exact bounds1 n (by omega) (by omega) w sig
  · exact bounds2 n (by omega) (by omega) w sig
  · exact bounds3 n (by omega) (by omega) w sig
end Go.Proofs.YtlcckhlkmnnjdaaDoor

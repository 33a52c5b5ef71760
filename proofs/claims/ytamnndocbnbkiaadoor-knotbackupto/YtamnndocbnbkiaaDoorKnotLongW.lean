/- The walk of the law KnotLong: rows up to their limit are taken, longer ones are not. -/
import Derived.Test.YtamnndocbnbkiaaDoorHAB
import Derived.Test.YtamnndocbnbkiaaDoorHAC
namespace Go.Proofs.YtamnndocbnbkiaaDoor
open Go.RowKit Go.Sort
set_option linter.unusedVariables false
set_option linter.unusedSimpArgs false

theorem rows_one (Q : Nat → Prop) (w : World) (v : Value) (l : List UInt8) (h : RowB Q w v l) : RowsB (fun _ => True) (w.alloc (Obj.cells #[v] 22)) (some ⟨w.heap.size, 0, none⟩) [l] := by
  intro i hi
  have hi : i < 1 := by simpa using hi
  match i, hi with
  | 0, _ => exact ⟨w.heap.size, 0, v, rfl, trivial, by simp, by go_simp, (h.below (below1 w _)).weak (fun _ _ _ => trivial)⟩
theorem tie_one (l : List UInt8) : [] ++ tieT [l] = rowT l := by unfold tieT; simp
theorem rowS_row (l : List UInt8) : rowS (some (rowT l)) = if l.length ≤ 9999 then (some [], l) else (none, []) := by
  by_cases h : l.length ≤ 9999
  · have hc : cutT (rowT l) = some (l, []) := cut_iff.2 ⟨by simp, h⟩
    rw [if_pos h]
    simp [rowS, hc]
  · have hc : cutT (rowT l) = none := by
      cases hC : cutT (rowT l) with
      | none => rfl
      | some x =>
        obtain ⟨e, h2⟩ := cut_iff.1 hC
        exfalso
        have h1 : headT (rowT l) = Lib.decDigits l.length := head_dec _ _
        have h3 : headT (rowT x.1 ++ x.2) = Lib.decDigits x.1.length := by unfold rowT; rw [List.append_assoc]; exact head_dec _ _
        rw [← e, h1] at h3
        have h4 := congrArg (numN 0) h3
        rw [dec_num, dec_num] at h4
        omega
    rw [if_neg h]
    simp [rowS, hc]
set_option maxHeartbeats 2000000 in
theorem knotLong_walk (n : Int) (hw : (Lit.int .i64 n).wf = true) (w : World) (ht : Lays w) :
    Calls Tryd.prog 7 #[.int .i64 n] w fun e w' => e = .returned (.bool true) ∧ Below w.heap.size w w' := by
  have HT := hide ht
  clear ht
  by_cases g1 : n < 0
  · go_enter Tryd.func7, Tryd.ntmps7
    go_wp2_with fail
    go_ret
    exact ⟨rfl, Below.refl _ _⟩
  · by_cases g2 : 12000 < n
    · go_enter Tryd.func7, Tryd.ntmps7
      go_wp2_with fail
      go_ret
      exact ⟨rfl, Below.refl _ _⟩
    · obtain ⟨k, rfl⟩ : ∃ k : Nat, n = k := ⟨n.toNat, by omega⟩
      have hk : k ≤ 12000 := by omega
      obtain ⟨i0, hi0, hz0, hz1, hz2⟩ := info_parts infoByte
      obtain ⟨w1, hmk, own1, gr1⟩ := run_make_full (P := Tryd.prog) w w.heap.size 22 5 i0 (.int .u8 0) 1 Tryd.underlying22 hi0 hz0 hz1 .i64 .i64 k (by rw [hz2]; omega) (by unfold maxLen; omega) (Nat.le_refl _)
      clear hi0 hz0 hz1 hz2
      have hcl : (madeCells (Value.int .u8 0).cells (k * 1)).toList = Lib.byteCells (List.replicate k 0) := by
        have e1 : (Value.int .u8 0).cells = #[Value.int .u8 0] := rfl
        rw [byteCells_enc, e1, Nat.mul_one, toList_madeCells_one, List.map_replicate]
        rfl
      rw [hcl] at own1
      have own1' : Own w.heap.size w1 (.slice (some ⟨w.heap.size, 0, none⟩) k k) (List.replicate k 0) := by unfold Own; rw [List.length_replicate]; exact own1
      have b1 : Below w.heap.size w w1 := (Below.refl _ w).grown gr1 (Nat.le_refl _) (fun _ h => by cases h)
      clear own1 gr1 hcl
      have hzl : (List.replicate k (0 : UInt8)).length = k := List.length_replicate ..
      generalize List.replicate k (0 : UInt8) = z at *
      have b2 := bstep b1 (below1 w1 (Obj.cells #[.slice (some ⟨w.heap.size, 0, none⟩) k k] 22))
      have C1 := hide (tie_any (fun _ => True) (.slice none 0 0) [] (some ⟨w1.heap.size, 0, none⟩) 1 [z] _ (row_nil _ _) (rows_one _ w1 _ z own1'.row) (by have := row_le z (by omega); have e := tie_one z; rw [List.nil_append] at e; rw [e]; simp; omega) (by simp) ((unhide HT).below b2).tab)
      rw [tie_one] at C1
      have hrs := rowS_row z
      rw [hzl] at hrs
      have hrl := row_le z (by omega)
      clear own1'
      go_enter Tryd.func7, Tryd.ntmps7
      go_wp2_with fail
      refine (unhide C1).mono ?_
      rintro e w3 ⟨v3, rfl, own3, b3⟩
      have b3' := bstep b2 b3
      have C2 := hide (open_any _ v3 (rowT z) w3 own3.row (by omega))
      clear own3 C1 b3 b2 hmk b1
      go_wp2_with fail
      refine (unhide C2).mono ?_
      rintro e w4 ⟨p, rfl, hp, hc4, b4⟩
      have b4' := bstep b3' b4
      have C3 := hide (row_any p w4 _ hc4 ((unhide HT).below b4'))
      have hp' : w.heap.size ≤ p := Nat.le_trans b3'.size hp
      clear C2 b4 b3' hc4
      go_wp2_with fail
      refine (unhide C3).mono ?_
      rintro e w5 ⟨v5, rfl, own5, hc5, m5⟩
      have b5' := m5.toBelow b4' hp'
      have hkn : Hid (∀ w', Below w.heap.size w w' → Calls Tryd.prog 14 #[] w' fun e w2 => e = .returned (.bool true) ∧ Below w'.heap.size w' w2) := hide (fun w' b => known_any w' ((unhide HT).below b).tab)
      by_cases h9 : k ≤ 9999
      · rw [if_pos h9] at hrs
        rw [hrs] at own5 hc5
        obtain ⟨a5, cap5, rfl, -, -, -⟩ := own5.row.form
        rw [hzl]
        have C4 := hide (good_any p w5 _ hc5)
        have H5 := hide hc5
        clear own5 hc5 m5 C3
        go_wp2_with fail
        refine (unhide C4).mono ?_
        rintro e w6 ⟨rfl, b6⟩
        have C5 := hide (whole_any p w6 _ ((unhide H5).below b6))
        have b6' := bstep b5' b6
        have e1 : (some ([] : List UInt8)).isSome = true := rfl
        have e2 : decide (some ([] : List UInt8) = some []) = true := by simp
        rw [e1]
        rw [e2] at C5
        clear C4 b6 H5
        go_wp2_with fail
        refine (unhide C5).mono ?_
        rintro e w7 ⟨rfl, b7⟩
        have b7' := bstep b6' b7
        have C6 := hide (unhide hkn w7 b7')
        go_wp2_with fail
        refine (unhide C6).mono ?_
        rintro e w8 ⟨rfl, b8⟩
        go_wp2_with fail
        go_ret
        exact ⟨rfl, bstep b7' b8⟩
      · rw [if_neg h9] at hrs
        rw [hrs] at own5 hc5
        obtain ⟨a5, cap5, rfl, -, -, -⟩ := own5.row.form
        have C4 := hide (good_any p w5 _ hc5)
        have H5 := hide hc5
        clear own5 hc5 m5 C3
        go_wp2_with fail
        refine (unhide C4).mono ?_
        rintro e w6 ⟨rfl, b6⟩
        have C5 := hide (whole_any p w6 _ ((unhide H5).below b6))
        have b6' := bstep b5' b6
        have e1 : (none : Option (List UInt8)).isSome = false := rfl
        have e2 : decide ((none : Option (List UInt8)) = some []) = false := by simp
        rw [e1]
        rw [e2] at C5
        clear C4 b6 H5
        go_wp2_with fail
        refine (unhide C5).mono ?_
        rintro e w7 ⟨rfl, b7⟩
        have b7' := bstep b6' b7
        have C6 := hide (unhide hkn w7 b7')
        go_wp2_with fail
        refine (unhide C6).mono ?_
        rintro e w8 ⟨rfl, b8⟩
        go_wp2_with fail
        go_ret
        exact ⟨rfl, bstep b7' b8⟩
end Go.Proofs.YtamnndocbnbkiaaDoor

/- The walk of the law KnotOfNothing: a nil cursor takes nothing; what is taken is new memory. -/
import Derived.Test.YtamnndocbnbkiaaDoorHAC
import Derived.Test.YtamnndocbnbkiaaDoorKnotLongW
namespace Go.Proofs.YtamnndocbnbkiaaDoor
open Go.RowKit Go.Sort
set_option linter.unusedVariables false
set_option linter.unusedSimpArgs false

set_option maxHeartbeats 2000000 in
theorem knotOfNothing_walk (v : Value) (l : List UInt8) (w : World) (h : RowB (fun _ => True) w v l) (ht : Lays w) :
    Calls Tryd.prog 8 #[v] w fun e w' => e = .returned (.bool true) ∧ Below w.heap.size w w' := by
  have HT := hide ht
  clear ht
  obtain ⟨a, cap, rfl, hcap, hm, hnil⟩ := h.form
  unfold maxLen at hm
  by_cases g1 : l.length < 1
  · clear h
    go_enter Tryd.func8, Tryd.ntmps8
    go_wp2_with fail
    go_ret
    exact ⟨rfl, by first | exact Below.refl _ _ | exact Below.drew (Below.refl _ _)⟩
  · by_cases g2 : 300 < l.length
    · clear h
      go_enter Tryd.func8, Tryd.ntmps8
      go_wp2_with fail
      go_ret
      exact ⟨rfl, by first | exact Below.refl _ _ | exact Below.drew (Below.refl _ _)⟩
    · have b2 := below1 w (Obj.cells #[.slice a l.length cap] 22)
      have hrl := row_le l (by omega)
      have C1 := hide (tie_any (fun _ => True) (.slice none 0 0) [] (some ⟨w.heap.size, 0, none⟩) 1 [l] _ (row_nil _ _) (rows_one _ w _ l h) (by have e := tie_one l; rw [List.nil_append] at e; rw [e]; simp; omega) (by simp) ((unhide HT).below b2).tab)
      rw [tie_one] at C1
      have hrs := rowS_row l
      rw [if_pos (by omega)] at hrs
      clear h
      go_enter Tryd.func8, Tryd.ntmps8
      go_wp2_with fail
      refine (unhide C1).mono ?_
      rintro e w3 ⟨v3, rfl, own3, b3⟩
      have b3' := bstep b2 b3
      have cv3 := conv_row own3.row
      have R3 := hide own3.row
      have C2 := hide (open_any _ v3 (rowT l) w3 own3.row (by omega))
      clear own3 C1 b3 b2
      go_wp2_with fail
      refine (unhide C2).mono ?_
      rintro e w4 ⟨p, rfl, hp, hc4, b4⟩
      have b4' := bstep b3' b4
      have C3 := hide (row_any p w4 _ hc4 ((unhide HT).below b4'))
      have hp' : w.heap.size ≤ p := Nat.le_trans b3'.size hp
      have k4 := b4
      clear C2 hc4 cv3
      go_wp2_with fail
      refine (unhide C3).mono ?_
      rintro e w5 ⟨v5, rfl, own5, hc5, m5⟩
      rw [hrs] at own5
      simp only at own5
      have k5 := m5.toBelow k4 hp
      have hgz : w3.heap.size ≤ w4.heap.size := k4.size
      clear hc5 C3
      obtain ⟨g, cap5, cur, rfl, hg1, hg2, hgc, hgm, hgs, hgt⟩ : ∃ g cap cur, v5 = .slice (some ⟨g, 0, none⟩) l.length cap ∧ w4.heap.size ≤ g ∧ w5.heap[g]? = some (.cells cur 5 (0, 0)) ∧ l.length ≤ cap ∧ cap ≤ maxLen ∧ cur.size = cap ∧ cur.toList.take l.length = l.map encB := by
        rcases own5.2 with ⟨_, h0⟩ | ⟨g, cap, cur, hv, hB, hg, hn, hm, hs, ht⟩
        · omega
        · exact ⟨g, cap, cur, hv, hB, hg, hn, hm, by simpa using hs, by rw [byteCells_enc] at ht; simpa using ht⟩
      have hcell : ∃ c : UInt8, w5.cell? ⟨g, 0, none⟩ = some (.int .u8 (c.toNat : Int)) := by
        obtain ⟨bl, o, e, -, -, hc⟩ := own5.row.at.2 0 (by omega)
        cases e
        exact ⟨_, hc⟩
      obtain ⟨c0, hcell⟩ := hcell
      have hfr : w5.frozen? ⟨g, 0, none⟩ = false := by simp [World.frozen?, hg2]
      clear own5 hgs hgt hg2
      unfold maxLen at hgm
      have k6 : ∀ x, Below w3.heap.size w3 (w5.setCell ⟨g, 0, none⟩ x) := fun x => Below.setCell k5 (by show w3.heap.size ≤ g; omega) x
      have K6 := hide k6
      clear k6 k5 m5 k4 b4 b4'
      go_wp2_with fail
      refine (row_nil_any _).mono ?_
      rintro e w7 ⟨rfl, b7⟩
      have k7 := bstep (unhide K6 _) b7
      clear K6 b7
      go_wp2_with fail
      refine (num_nil_any _).mono ?_
      rintro e w8 ⟨rfl, b8⟩
      have k8 := bstep k7 b8
      clear k7 b8
      go_wp2_with fail
      refine (good_nil _).mono ?_
      rintro e w9 ⟨rfl, b9⟩
      have k9 := bstep k8 b9
      clear k8 b9
      go_wp2_with fail
      refine (whole_nil _).mono ?_
      rintro e w10 ⟨rfl, b10⟩
      have k10 := bstep k9 b10
      have cv10 := conv_row ((unhide R3).below k10)
      have C4 := hide (known_any w10 ((unhide HT).below (bstep b3' k10)).tab)
      clear k9 b10
      go_wp2_with fail
      refine (unhide C4).mono ?_
      rintro e w11 ⟨rfl, b11⟩
      go_wp2_with fail
      go_ret
      exact ⟨rfl, bstep b3' (bstep k10 b11)⟩
end Go.Proofs.YtamnndocbnbkiaaDoor

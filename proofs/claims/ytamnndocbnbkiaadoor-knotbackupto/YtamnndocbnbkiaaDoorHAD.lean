/- KnotBackW: laid together. -/
import Derived.Test.YtamnndocbnbkiaaDoorKnotLongW
import Derived.Test.YtamnndocbnbkiaaDoorHAC
import Derived.Deep.RegionWith
/- The walk of the law KnotBack: what was tied is taken as it was. -/
namespace Go.Proofs.YtamnndocbnbkiaaDoor
open Go.RowKit Go.Sort
set_option linter.unusedVariables false
set_option linter.unusedSimpArgs false

set_option maxHeartbeats 1000000 in
theorem long_any (Q : Nat → Prop) (a : Option Addr) (cap : Nat) (ls : List (List UInt8)) (w : World) (hl : RowsB Q w a ls) (hs : sumT ls ≤ 1048576) :
    Calls Tryd.prog 9 #[.slice a ls.length cap] w fun e w' => e = .returned (.bool (decide (4000 < sumT ls))) ∧ w' = w := by
  have HL := hide hl
  have HLT := hide (sumT_take ls)
  have HLE := hide (sumT_le ls)
  have hln := sumT_len ls
  clear hl
  go_enter Tryd.func9, Tryd.ntmps9
  go_wp2_with fail
  go_loop [3, 4] (fun n i => ∃ j : Nat, j ≤ ls.length ∧ i = .int .i64 j ∧ n = .int .i64 (sumT (ls.take j))) (fun _ i => ls.length - (intOf i).toNat)
  case atStart => exact ⟨0, Nat.zero_le _, rfl, by simp [sumT]⟩
  case round =>
    obtain ⟨j, hj, rfl, rfl⟩ := hrel
    by_cases hlt : j < ls.length
    · have h1 := unhide HLT j hlt
      have h2 := unhide HLE (j + 1)
      obtain ⟨bl, o, vr, rfl, hq, hbl, hc, hr⟩ := unhide HL j hlt
      obtain ⟨ar, cr, rfl, -, hm, -⟩ := hr.form
      have HS := hide h1
      rw [h1] at h2
      clear h1 hr
      generalize hS2 : sumT (ls.take (j + 1)) = S2 at *
      replace hS2 := hide hS2
      generalize sumT (ls.take j) = S1 at *
      generalize (ls.getD j []).length = rl at *
      go_wp2_with fail
      go_round
      case rel => exact ⟨j + 1, hlt, by go_num, by rw [unhide hS2, unhide HS]; go_num⟩
      case measure => simp [intOf]; omega
    · obtain rfl : j = ls.length := by omega
      have hge : sumT (ls.take ls.length) = sumT ls := by rw [List.take_length]
      rw [hge]
      clear HL HLT HLE hge
      go_wp2_with fail
      go_ret
      exact ⟨ret_bool (by rw [Bool.eq_iff_iff]; simp <;> omega), rfl⟩

theorem rowS_cons (r : List UInt8) (rest : List UInt8) (h : r.length ≤ 9999) : rowS (some (rowT r ++ rest)) = (some rest, r) := by
  have hc : cutT (rowT r ++ rest) = some (r, rest) := cut_iff.2 ⟨rfl, h⟩
  simp [rowS, hc]
theorem tie_drop (ls : List (List UInt8)) (j : Nat) (h : j < ls.length) : tieT (ls.drop j) = rowT (ls.getD j []) ++ tieT (ls.drop (j + 1)) := by
  rw [List.drop_eq_getElem_cons h]
  have e : ls.getD j [] = ls[j] := by rw [List.getD_eq_getElem?_getD, List.getElem?_eq_getElem h]; rfl
  rw [e]
  unfold tieT
  rw [List.map_cons, List.flatten_cons]
theorem nums_drop (ns : List Int) (j : Nat) (h : j < ns.length) : numsT (ns.drop j) = rowT (Lib.itoa (ns.getD j 0)) ++ numsT (ns.drop (j + 1)) := by
  rw [List.drop_eq_getElem_cons h]
  have e : ns.getD j 0 = ns[j] := by rw [List.getD_eq_getElem?_getD, List.getElem?_eq_getElem h]; rfl
  rw [e]
  unfold numsT tieT
  rw [List.map_cons, List.map_cons, List.flatten_cons]
theorem numS_cons (n : Int) (rest : List UInt8) (h : inI n) : numS (some (rowT (Lib.itoa n) ++ rest)) = if nearI n then (some rest, n) else (none, 0) := by
  have hl := itoa_len n h
  have e := rowS_cons (Lib.itoa n) rest (by omega)
  have hN : numT (Lib.itoa n) = some n := numT_iff.2 ⟨rfl, h.1, h.2⟩
  unfold numS
  rw [e]
  simp only [hN]
set_option maxHeartbeats 4000000 in
set_option maxRecDepth 20000 in
theorem knotBack_walk (a : Option Addr) (cap : Nat) (ls : List (List UInt8)) (v1 : Value) (ns : List Int) (w : World) (hl : RowsB (fun _ => True) w a ls) (hs : sumT ls ≤ 1048576) (hn : RowI (fun _ => True) w v1 ns) (hi : ∀ n ∈ ns, inI n) (ht : Lays w) :
    Calls Tryd.prog 5 #[.slice a ls.length cap, v1] w fun e w' => e = .returned (.bool true) ∧ Below w.heap.size w w' := by
  obtain ⟨a1, cap1, rfl, -, hm1, -⟩ := hn.form
  unfold maxLen at hm1
  have HT := hide ht
  have hl2 : RowsB (fun g => g < w.heap.size) w a ls := hl.keep (Nat.le_refl _) (fun _ _ _ _ => rfl) (fun g hg _ => hg)
  have hn2 : RowI (fun g => g < w.heap.size) w (.slice a1 ns.length cap1) ns := hn.weak (fun g hg _ => hg)
  have HL := hide hl2
  have HN2 := hide hn2
  have HN := hide hn
  clear hl2 hn2
  have CL := hide (long_any _ a cap ls w hl hs)
  by_cases g1 : 4000 < sumT ls
  · rw [decide_eq_true g1] at CL
    clear hl hn
    go_enter Tryd.func5, Tryd.ntmps5
    go_wp2_with fail
    refine (unhide CL).mono ?_
    rintro e w1 ⟨rfl, rfl⟩
    go_wp2_with fail
    go_ret
    exact ⟨rfl, Below.refl _ _⟩
  · rw [decide_eq_false g1] at CL
    by_cases g2 : 100 < ns.length
    · clear hl hn
      go_enter Tryd.func5, Tryd.ntmps5
      go_wp2_with fail
      refine (unhide CL).mono ?_
      rintro e w1 ⟨rfl, rfl⟩
      go_wp2_with fail
      go_ret
      exact ⟨rfl, Below.refl _ _⟩
    · have hts := tie_sum ls (by omega)
      have hnl : (numsT ns).length ≤ 44 * ns.length := by have := nums_le ns hi ns.length (Nat.le_refl _); rwa [List.take_length] at this
      have hlen := sumT_len ls
      have C1 := hide (tie_any (fun _ => True) (.slice none 0 0) [] a cap ls w (row_nil _ _) hl (by simp; omega) (by omega) ht.tab)
      rw [List.nil_append] at C1
      have HI := hide hi
      clear hl hn ht hi
      go_enter Tryd.func5, Tryd.ntmps5
      go_wp2_with fail
      refine (unhide CL).mono ?_
      rintro e w1 ⟨rfl, rfl⟩
      clear CL
      go_wp2_with fail
      refine (unhide C1).mono ?_
      rintro e w2 ⟨v2, rfl, own2, b2⟩
      have C2 := hide (num_any (fun _ => True) v2 (tieT ls) a1 cap1 ns w2 (own2.row.weak (fun _ _ _ => trivial)) ((unhide HN).below b2) (unhide HI) (by omega) (by omega) ((unhide HT).below b2).tab)
      clear C1 own2
      go_wp2_with fail
      refine (unhide C2).mono ?_
      rintro e w3 ⟨v3, rfl, own3, b3⟩
      have b3' := bstep b2 b3
      have C3 := hide (open_any _ v3 (tieT ls ++ numsT ns) w3 own3.row (by rw [List.length_append]; omega))
      clear C2 own3 b3
      go_wp2_with fail
      refine (unhide C3).mono ?_
      rintro e w4 ⟨p, rfl, hp, hc4, b4⟩
      have b4' := bstep b3' b4
      have hp' : w1.heap.size ≤ p := Nat.le_trans b3'.size hp
      clear C3 b4 b3' b2
      have hc0 : Hid (Cu p w4 (some (tieT (ls.drop 0) ++ numsT ns))) := hide hc4
      clear hc4
      go_wp2_with fail
      go_loopw [6] (fun i wr => ∃ j : Nat, j ≤ ls.length ∧ i = .int .i64 j ∧ Below w1.heap.size w1 wr ∧ Hid (Cu p wr (some (tieT (ls.drop j) ++ numsT ns)))) (fun i _ => ls.length - (intOf i).toNat)
      case atStart => exact ⟨0, Nat.zero_le _, rfl, b4', hc0⟩
      case round =>
        obtain ⟨j, hj, rfl, bel, HC⟩ := hrel
        clear hc0 b4'
        by_cases hlt : j < ls.length
        · have hrl := get_sum ls j hlt
          obtain ⟨bl, o, vr, rfl, hq, hbl, hc, hr⟩ := unhide HL j hlt
          have hcd := (unhide HC).below (Below.drew (Below.refl wr.heap.size wr))
          have beld := Below.drew bel
          have C5 := row_any p wr.drew _ hcd ((unhide HT).below beld)
          rw [tie_drop ls j hlt, List.append_assoc, rowS_cons _ _ (by omega)] at C5
          have H5 := hide C5
          have HRW := hide (fun W (b : Below w1.heap.size w1 W) => conv_row (hr.under b))
          have HCW := hide (fun W (b : Below w1.heap.size w1 W) => kcx b hc)
          have cvr := unhide HRW _ beld
          have hcr := unhide HCW _ beld
          clear C5 hcd hr hc HRW
          have HRW := hide (fun W (b : Below w1.heap.size w1 W) => conv_row ((show RowB (fun g => g < w1.heap.size) w1 vr (ls.getD j []) from by obtain ⟨bl', o', vr', e, _, _, hc', hr'⟩ := unhide HL j hlt; cases e; have := (unhide HCW w1 (Below.refl _ _)).symm.trans hc'; cases this; exact hr').under b))
          generalize ls.getD j [] = r at *
          go_wp2_with fail
          go_region_with (go_at_call 18; refine (unhide H5).mono ?_; rintro e w6 ⟨v6, rfl, own6, hc6, m6⟩; have bel6 := m6.toBelow beld hp'; have cv6 := conv_row own6.row; have HC6 := hide hc6; have cvr6 := unhide HRW w6 bel6; have hcr6 := unhide HCW w6 bel6; clear own6 hc6 m6)
          all_goals
            go_wp2_with fail
            go_roundw
            case rel => exact ⟨j + 1, hlt, by go_num, bel6, HC6⟩
            case measure => simp [intOf]; omega
        · obtain rfl : j = ls.length := by omega
          have hd0 : Hid (Cu p wr (some (numsT (ns.drop 0)))) := hide (by
            have := unhide HC
            rw [List.drop_length] at this
            simpa [tieT] using this)
          have HIJ := hide (fun j (h : j < ns.length) => (show inI (ns.getD j 0) by
            rw [List.getD_eq_getElem?_getD, List.getElem?_eq_getElem h]
            exact unhide HI _ (by simp)))
          have hkn : Hid (∀ w', Below w1.heap.size w1 w' → Calls Tryd.prog 14 #[] w' fun e w2 => e = .returned (.bool true) ∧ Below w'.heap.size w' w2) := hide (fun w' b => known_any w' ((unhide HT).below b).tab)
          clear HC HI HL
          go_wp2_with fail
          go_loopw [7] (fun i wr => ∃ j : Nat, j ≤ ns.length ∧ i = .int .i64 j ∧ Below w1.heap.size w1 wr ∧ Hid (Cu p wr (some (numsT (ns.drop j))))) (fun i _ => ns.length - (intOf i).toNat)
          case atStart => exact ⟨0, Nat.zero_le _, rfl, bel, hd0⟩
          case round =>
            clear bel hd0
            obtain ⟨j, hj, rfl, bel, HC⟩ := hrel
            by_cases hlt2 : j < ns.length
            · obtain ⟨bl, o, rfl, hq, hbl, hc⟩ := ((unhide HN2).under bel).at.2 j hlt2
              have HCN := hide (fun W (b : Below w1.heap.size w1 W) => (show W.cell? ⟨bl, o + j, none⟩ = some (.int .i64 (ns.getD j 0)) from by
                obtain ⟨bl', o', e', -, -, hc2⟩ := ((unhide HN2).under b).at.2 j hlt2
                cases e'
                exact hc2))
              have hx := unhide HIJ j hlt2
              have ND := nums_drop ns j hlt2
              have NC := numS_cons (ns.getD j 0) (numsT (ns.drop (j + 1))) hx
              rw [← ND] at NC
              have HNC := hide NC
              have hc' : wr.drew.cell? ⟨bl, o + j, none⟩ = some (.int .i64 (ns.getD j 0)) := hc
              have CN := hide (fun W (b : Below wr.heap.size wr W) => cnum_any p W _ ((unhide HC).below b) ((unhide HT).below (bstep bel b)) (fun w' m => (unhide HT).below (m.toBelow (bstep bel b) hp')))
              clear NC ND
              have hx1 := hx.1
              have hx2 := hx.2
              generalize ns.getD j 0 = x at *
              by_cases q1 : x < -1000000000000000
              · have hS := hide ((unhide HNC).trans (if_neg (fun h => by have := h.1; omega)))
                clear HNC
                go_wp2_with fail
                refine (unhide CN wr (Below.refl _ _)).mono ?_
                rintro e w5 ⟨rfl, hc5, m5⟩
                rw [unhide hS] at hc5
                rw [unhide hS]
                have bel5 := m5.toBelow bel hp'
                have C8 := hide (good_any p w5 _ hc5)
                clear hc5 m5 CN
                go_wp2_with fail
                refine (unhide C8).mono ?_
                rintro e w6 ⟨rfl, b6⟩
                have bel6 := bstep bel5 b6
                have C9 := hide (unhide hkn w6 bel6)
                have e1 : (none : Option (List UInt8)).isSome = false := rfl
                rw [e1]
                go_wp2_with fail
                refine (unhide C9).mono ?_
                rintro e w7 ⟨rfl, b7⟩
                go_wp2_with fail
                go_ret
                exact ⟨rfl, bstep bel6 b7⟩
              · by_cases q2 : 1000000000000000 < x
                · have hS := hide ((unhide HNC).trans (if_neg (fun h => by have := h.2; omega)))
                  clear HNC
                  go_wp2_with fail
                  refine (unhide CN wr (Below.refl _ _)).mono ?_
                  rintro e w5 ⟨rfl, hc5, m5⟩
                  rw [unhide hS] at hc5
                  rw [unhide hS]
                  have bel5 := m5.toBelow bel hp'
                  have C8 := hide (good_any p w5 _ hc5)
                  clear hc5 m5 CN
                  go_wp2_with fail
                  refine (unhide C8).mono ?_
                  rintro e w6 ⟨rfl, b6⟩
                  have bel6 := bstep bel5 b6
                  have C9 := hide (unhide hkn w6 bel6)
                  have e1 : (none : Option (List UInt8)).isSome = false := rfl
                  rw [e1]
                  go_wp2_with fail
                  refine (unhide C9).mono ?_
                  rintro e w7 ⟨rfl, b7⟩
                  go_wp2_with fail
                  go_ret
                  exact ⟨rfl, bstep bel6 b7⟩
                · have hS := hide ((unhide HNC).trans (if_pos ⟨by omega, by omega⟩))
                  clear HNC
                  have beld := Below.drew (Below.refl wr.heap.size wr)
                  have HCX := hide (unhide CN _ beld)
                  have beld' := Below.drew bel
                  clear CN
                  go_wp2_with fail
                  go_region_with (go_at_call 16; refine (unhide HCX).mono ?_; rintro e w5 ⟨rfl, hc5, m5⟩; rw [unhide hS] at hc5; rw [unhide hS]; have bel5 := m5.toBelow beld' hp'; have HC5 := hide hc5; have hcn5 := unhide HCN w5 bel5; clear hc5 m5)
                  all_goals
                    go_wp2_with fail
                    go_roundw
                    case rel => exact ⟨j + 1, hlt2, by go_num, bel5, HC5⟩
                    case measure => simp [intOf]; omega
            · obtain rfl : j = ns.length := by omega
              have hW := (unhide HC)
              rw [List.drop_length] at hW
              have CW := hide (fun W (b : Below wr.heap.size wr W) => whole_any p W _ (hW.below b))
              have eW : decide (some (numsT ([] : List Int)) = some []) = true := by simp [numsT, tieT]
              rw [eW] at CW
              clear hW HC
              go_wp2_with fail
              refine (unhide CW wr (Below.refl _ _)).mono ?_
              rintro e w5 ⟨rfl, b5⟩
              have bel5 := bstep bel b5
              have C9 := hide (unhide hkn w5 bel5)
              clear CW
              go_wp2_with fail
              refine (unhide C9).mono ?_
              rintro e w7 ⟨rfl, b7⟩
              go_wp2_with fail
              go_ret
              exact ⟨rfl, bstep bel5 b7⟩
end Go.Proofs.YtamnndocbnbkiaaDoor

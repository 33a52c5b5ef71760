/- The contract of the document's next at a number. -/
import Derived.Test.YtlcckhlkmnnjdaaDoorRLName
namespace Go.Proofs.YtlcckhlkmnnjdaaDoor
open Go.RowKit
set_option linter.unusedVariables false

section
variable {l : List UInt8} {at0 D : Nat}
theorem num_head (hD : at0 + run dgB (l.drop at0) = D) : numN (l.drop at0) = if (l.drop D).head? = some 46 then (if run dgB (l.drop (D + 1)) = 0 then D - at0 else D - at0 + 1 + run dgB (l.drop (D + 1))) else D - at0 := by
  unfold numN
  rw [List.drop_drop, List.drop_drop, hD, show at0 + (run dgB (l.drop at0) + 1) = D + 1 by omega, show run dgB (l.drop at0) = D - at0 by omega]
theorem num_yes (hD : at0 + run dgB (l.drop at0) = D) (h : D + 1 < l.length) (h46 : l[D].toNat = 46) (hd : dgB l[D + 1] = true) : at0 + numN (l.drop at0) = D + 1 + run dgB (l.drop (D + 1)) := by
  have e : l[D] = 46 := UInt8.toNat.inj (by rw [h46]; rfl)
  have r : 1 ≤ run dgB (l.drop (D + 1)) := by rw [drop_cons h]; exact run_pos _ hd
  rw [num_head hD, drop_cons (show D < l.length by omega), e, List.head?_cons, if_pos rfl, if_neg (by omega)]
  omega
theorem num_no (hD : at0 + run dgB (l.drop at0) = D) (h : D + 1 < l.length → ∀ (h1 : D < l.length) (h2 : D + 1 < l.length), l[D].toNat = 46 → dgB l[D + 1] = false) : at0 + numN (l.drop at0) = D := by
  rw [num_head hD]
  by_cases h1 : D < l.length
  · rw [drop_cons h1]
    by_cases h46 : l[D] = 46
    · rw [h46, List.head?_cons, if_pos rfl]
      have hr : run dgB (l.drop (D + 1)) = 0 := by
        by_cases h2 : D + 1 < l.length
        · exact run_no h2 (h h2 h1 h2 (by rw [h46]; rfl))
        · exact run_end (by omega)
      rw [if_pos hr]; omega
    · rw [if_neg (by intro e; exact h46 (Option.some.inj e))]; omega
  · rw [List.drop_of_length_le (by omega), if_neg (by simp)]; omega
end

set_option maxHeartbeats 3200000 in
set_option maxRecDepth 10000 in
theorem rnum_any (l : List UInt8) (at0 : Nat) (w : World) (hl : l.length ≤ 1000) (ha : at0 < l.length) (hs : smB l[at0] = false) (hd : dgB l[at0] = true) :
    Calls Tryd.prog 21 #[.string ⟨l.toArray⟩, .int .i64 at0] w fun e w' => e = .returned (nxtV 2 (numN (l.drop at0)) ((l.drop at0).take (numN (l.drop at0))) at0 0) ∧ Below w.heap.size w w' := by
  have hge : (⟨l.toArray⟩ : ByteArray)[at0]'(by simpa [ByteArray.size] using ha) = l[at0] := rfl
  have h1 := numN_le (l.drop at0)
  rw [List.length_drop] at h1
  have h2 := run_le dgB (l.drop at0)
  rw [List.length_drop] at h2
  have e1 : (ByteArray.mk l.toArray).extract at0 (at0 + numN (l.drop at0)) = ByteArray.mk ((l.drop at0).take (numN (l.drop at0))).toArray := by rw [lext_eq, Nat.add_sub_cancel_left]
  generalize (l.drop at0).take (numN (l.drop at0)) = t at *
  generalize hV0 : nxtV 2 (numN (l.drop at0)) t at0 0 = V
  have hEl : at0 + numN (l.drop at0) ≤ l.length := by omega
  have hEk : at0 ≤ at0 + numN (l.drop at0) := by omega
  generalize hD : at0 + run dgB (l.drop at0) = D
  have hDl : D ≤ l.length := by omega
  have YES := hide (num_yes hD)
  have NO := hide (num_no hD)
  have HD0 := hide hD
  have HVV := hide (fun E (h : at0 + numN (l.drop at0) = E) => hV0.symm.trans (nxt_ok (F := 0) rfl h))
  clear hV0 hD h1 h2
  generalize at0 + numN (l.drop at0) = E at *
  have HS := hide hs
  have HD := hide hd
  have HV := hide (unhide HVV E rfl).symm
  clear hs hd HVV
  go_enter Tryd.func21, Tryd.ntmps21
  go_wp2_with fail
  refine (rletter_any l[at0] _).mono ?_
  rintro e w1 ⟨rfl, rfl⟩
  rw [unhide HS]
  go_wp2_with fail
  refine (rdigit_any l[at0] _).mono ?_
  rintro e w1 ⟨rfl, rfl⟩
  rw [unhide HD]
  go_wp2_with fail
  go_loop [7] (fun i => ∃ k : Nat, at0 ≤ k ∧ k ≤ l.length ∧ i = .int .i64 k ∧ Hid (k + run dgB (l.drop k) = D)) (fun i => l.length - (intOf i).toNat)
  case atStart => exact ⟨at0, by omega, by omega, rfl, HD0⟩
  case round =>
    clear HD0
    obtain ⟨k, hk1, hk2, rfl, HR⟩ := hrel
    by_cases hlt : k < l.length
    · have hgk : (⟨l.toArray⟩ : ByteArray)[k]'(by simpa [ByteArray.size] using hlt) = l[k] := rfl
      cases hdk : dgB l[k]
      · have HDK := hide hdk
        have hkD : k = D := by have := unhide HR; rw [run_no hlt hdk] at this; exact this
        subst hkD
        clear hdk HR
        go_wp2_with fail
        refine (rdigit_any l[k] _).mono ?_
        rintro e w1 ⟨rfl, rfl⟩
        rw [unhide HDK]
        by_cases hk3 : k + 1 < l.length
        · have hgk1 : (⟨l.toArray⟩ : ByteArray)[k + 1]'(by simpa [ByteArray.size] using hk3) = l[k + 1] := rfl
          by_cases h46 : l[k].toNat = 46
          · have e46 : ((l[k].toNat : Int) == 46) = true := by simp; omega
            cases hd1 : dgB l[k + 1]
            · have HD1 := hide hd1
              have hE : k = E := (unhide NO (fun _ _ _ _ => hd1)).symm
              subst hE
              clear hd1 h46
              go_wp2_with fail
              refine (rdigit_any l[k + 1] _).mono ?_
              rintro e w1 ⟨rfl, rfl⟩
              rw [unhide HD1]
              go_wp2_with fail
              refine bodyPost_ret (v := .tuple #[.agg #[.int .i64 2, .string ⟨t.toArray⟩, .int .i64 (at0 : Int)], .int .i64 (k : Int), .int .i64 0]) (by simp [results, Tryd.results21, go_sem]) rfl ⟨ret_val (unhide HV), ?_⟩
              exact below1 w _
            · have HD1 := hide hd1
              have HE0 := hide (unhide YES hk3 h46 hd1).symm
              clear hd1 h46
              go_wp2_with fail
              refine (rdigit_any l[k + 1] _).mono ?_
              rintro e w1 ⟨rfl, rfl⟩
              rw [unhide HD1]
              go_wp2_with fail
              go_loop [7] (fun i => ∃ j : Nat, at0 ≤ j ∧ j ≤ l.length ∧ i = .int .i64 j ∧ Hid (j + run dgB (l.drop j) = E)) (fun i => l.length - (intOf i).toNat)
              case atStart => exact ⟨k + 1, by omega, by omega, by go_num, HE0⟩
              case round =>
                clear HE0
                obtain ⟨j, hj1, hj2, rfl, HJ⟩ := hrel
                by_cases hjt : j < l.length
                · have hgj : (⟨l.toArray⟩ : ByteArray)[j]'(by simpa [ByteArray.size] using hjt) = l[j] := rfl
                  cases hdj : dgB l[j]
                  · have HDJ := hide hdj
                    have hjE : j = E := by have := unhide HJ; rw [run_no hjt hdj] at this; exact this
                    subst hjE
                    clear hdj HJ
                    go_wp2_with fail
                    refine (rdigit_any l[j] _).mono ?_
                    rintro e w1 ⟨rfl, rfl⟩
                    rw [unhide HDJ]
                    go_wp2_with fail
                    refine bodyPost_ret (v := .tuple #[.agg #[.int .i64 2, .string ⟨t.toArray⟩, .int .i64 (at0 : Int)], .int .i64 (j : Int), .int .i64 0]) (by simp [results, Tryd.results21, go_sem]) rfl ⟨ret_val (unhide HV), ?_⟩
                    exact below1 w _
                  · have HDJ := hide hdj
                    have HE := hide (show j + 1 + run dgB (l.drop (j + 1)) = E by rw [← unhide HJ]; exact (run_yes hjt hdj).symm)
                    clear hdj
                    go_wp2_with fail
                    refine (rdigit_any l[j] _).mono ?_
                    rintro e w1 ⟨rfl, rfl⟩
                    rw [unhide HDJ]
                    go_wp2_with fail
                    go_round
                    case rel => exact ⟨j + 1, by omega, by omega, by go_num, HE⟩
                    case measure => simp [intOf]; omega
                · have hjE : j = E := by have := unhide HJ; rw [run_end (by omega)] at this; exact this
                  subst hjE
                  clear HJ
                  go_wp2_with fail
                  refine bodyPost_ret (v := .tuple #[.agg #[.int .i64 2, .string ⟨t.toArray⟩, .int .i64 (at0 : Int)], .int .i64 (j : Int), .int .i64 0]) (by simp [results, Tryd.results21, go_sem]) rfl ⟨ret_val (unhide HV), ?_⟩
                  exact below1 w _
          · have e46 : ((l[k].toNat : Int) == 46) = false := by simp; omega
            have hE : k = E := (unhide NO (fun _ _ _ h => absurd h h46)).symm
            subst hE
            clear h46
            go_wp2_with fail
            refine bodyPost_ret (v := .tuple #[.agg #[.int .i64 2, .string ⟨t.toArray⟩, .int .i64 (at0 : Int)], .int .i64 (k : Int), .int .i64 0]) (by simp [results, Tryd.results21, go_sem]) rfl ⟨ret_val (unhide HV), ?_⟩
            exact below1 w _
        · have hE : k = E := (unhide NO (fun h => absurd h hk3)).symm
          subst hE
          go_wp2_with fail
          refine bodyPost_ret (v := .tuple #[.agg #[.int .i64 2, .string ⟨t.toArray⟩, .int .i64 (at0 : Int)], .int .i64 (k : Int), .int .i64 0]) (by simp [results, Tryd.results21, go_sem]) rfl ⟨ret_val (unhide HV), ?_⟩
          exact below1 w _
      · have HDK := hide hdk
        have HE := hide (show k + 1 + run dgB (l.drop (k + 1)) = D by rw [← unhide HR]; exact (run_yes hlt hdk).symm)
        clear hdk
        go_wp2_with fail
        refine (rdigit_any l[k] _).mono ?_
        rintro e w1 ⟨rfl, rfl⟩
        rw [unhide HDK]
        go_wp2_with fail
        go_round
        case rel => exact ⟨k + 1, by omega, by omega, by go_num, HE⟩
        case measure => simp [intOf]; omega
    · have hkD : k = D := by have := unhide HR; rw [run_end (by omega)] at this; exact this
      subst hkD
      have hE : k = E := (unhide NO (fun h => absurd h (by omega))).symm
      subst hE
      clear HR
      go_wp2_with fail
      refine bodyPost_ret (v := .tuple #[.agg #[.int .i64 2, .string ⟨t.toArray⟩, .int .i64 (at0 : Int)], .int .i64 (k : Int), .int .i64 0]) (by simp [results, Tryd.results21, go_sem]) rfl ⟨ret_val (unhide HV), ?_⟩
      exact below1 w _

end Go.Proofs.YtlcckhlkmnnjdaaDoor

/- The contract of the document's next at a text. -/
import Derived.Test.YtlcckhlkmnnjdaaDoorRLName
namespace Go.Proofs.YtlcckhlkmnnjdaaDoor
open Go.RowKit
set_option linter.unusedVariables false

section
variable {l : List UInt8} {at0 D : Nat}
theorem saidL_three {r : List UInt8} {R : Nat} (h : R + 2 ≤ r.length) : saidL 3 (r.take (1 + R + 1)) = (r.drop 1).take R := by
  unfold saidL
  rw [if_pos rfl, List.length_take, List.drop_take, List.take_take]
  congr 1
  omega
/- what next answers at a place. -/
def nxtAt (l : List UInt8) (at0 : Nat) : Value := nxtV (tokK (l.drop at0)) (tokN (l.drop at0)) (tokT (l.drop at0)) at0 (flt (tokK (l.drop at0)) (tokT (l.drop at0)))
theorem end_yes (ha : at0 < l.length) (hD : at0 + 1 + run txB (l.drop (at0 + 1)) = D) (h : D < l.length) (hq : l[D].toNat = 34) : endB (l.drop at0) = true := by
  unfold endB
  rw [List.drop_drop, List.drop_drop, show at0 + (1 + run txB (l.drop (at0 + 1))) = D by omega, drop_cons h, List.head?_cons]
  have : l[D] = 34 := UInt8.toNat.inj (by rw [hq]; rfl)
  rw [this]; rfl
theorem end_no (ha : at0 < l.length) (hD : at0 + 1 + run txB (l.drop (at0 + 1)) = D) (hq : ∀ h : D < l.length, l[D].toNat ≠ 34) : endB (l.drop at0) = false := by
  unfold endB
  rw [List.drop_drop, List.drop_drop, show at0 + (1 + run txB (l.drop (at0 + 1))) = D by omega]
  by_cases h : D < l.length
  · rw [drop_cons h, List.head?_cons]
    exact beq_eq_false_iff_ne.2 (fun e => hq h (by rw [Option.some.inj e]; rfl))
  · rw [List.drop_of_length_le (by omega)]; rfl
theorem tx_none (ha : at0 < l.length) (hs : smB l[at0] = false) (hd : dgB l[at0] = false) (h34 : l[at0].toNat = 34) (hD : at0 + 1 + run txB (l.drop (at0 + 1)) = D) (hq : ∀ h : D < l.length, l[D].toNat ≠ 34) :
    nxtAt l at0 = .tuple #[.agg #[.int .i64 0, .string ⟨#[]⟩, .int .i64 0], .int .i64 (at0 : Int), .int .i64 2] := by
  have hK : tokK (l.drop at0) = 0 := by rw [(tok_cons ha).1, hs, hd, h34, end_no ha hD hq]; rfl
  unfold nxtAt
  have hF : flt (tokK (l.drop at0)) (tokT (l.drop at0)) = 2 := by unfold flt; rw [if_pos hK]
  rw [hF]; exact nxt_err (F := 2) (by omega)
theorem tx_facts (ha : at0 < l.length) (hs : smB l[at0] = false) (hd : dgB l[at0] = false) (h34 : l[at0].toNat = 34) (hD : at0 + 1 + run txB (l.drop (at0 + 1)) = D) (h : D < l.length) (hq : l[D].toNat = 34) :
    tokK (l.drop at0) = 3 ∧ tokN (l.drop at0) = D + 1 - at0 ∧ tokT (l.drop at0) = (l.drop (at0 + 1)).take (D - (at0 + 1)) ∧ (tokT (l.drop at0)).length = D - (at0 + 1) := by
  have he := end_yes ha hD h hq
  have hK : tokK (l.drop at0) = 3 := by rw [(tok_cons ha).1, hs, hd, h34, he]; rfl
  have hN : tokN (l.drop at0) = 1 + (D - (at0 + 1)) + 1 := by
    rw [(tok_cons ha).2, hs, hd, h34, he]
    rw [if_neg (by simp), if_neg (by simp), if_pos rfl, if_pos rfl, List.drop_drop]
    omega
  have hT : tokT (l.drop at0) = (l.drop (at0 + 1)).take (D - (at0 + 1)) := by
    unfold tokT
    rw [hK, hN, saidL_three (by rw [List.length_drop]; omega), List.drop_drop]
  refine ⟨hK, by omega, hT, ?_⟩
  rw [hT, List.length_take, List.length_drop]; omega
theorem tx_long (ha : at0 < l.length) (hs : smB l[at0] = false) (hd : dgB l[at0] = false) (h34 : l[at0].toNat = 34) (hD : at0 + 1 + run txB (l.drop (at0 + 1)) = D) (h : D < l.length) (hq : l[D].toNat = 34) (h16 : 16 < D - (at0 + 1)) :
    nxtAt l at0 = .tuple #[.agg #[.int .i64 0, .string ⟨#[]⟩, .int .i64 0], .int .i64 (at0 : Int), .int .i64 13] := by
  obtain ⟨hK, hN, hT, hTl⟩ := tx_facts ha hs hd h34 hD h hq
  have hF : flt (tokK (l.drop at0)) (tokT (l.drop at0)) = 13 := by
    unfold flt; rw [hK, hTl]; simp [h16]
  unfold nxtAt
  rw [hF]; exact nxt_err (F := 13) (by omega)
theorem tx_ok (ha : at0 < l.length) (hs : smB l[at0] = false) (hd : dgB l[at0] = false) (h34 : l[at0].toNat = 34) (hD : at0 + 1 + run txB (l.drop (at0 + 1)) = D) (h : D < l.length) (hq : l[D].toNat = 34) (h16 : D - (at0 + 1) ≤ 16) :
    nxtAt l at0 = .tuple #[.agg #[.int .i64 3, .string ⟨((l.drop (at0 + 1)).take (D - (at0 + 1))).toArray⟩, .int .i64 (at0 : Int)], .int .i64 ((D : Int) + 1), .int .i64 0] := by
  obtain ⟨hK, hN, hT, hTl⟩ := tx_facts ha hs hd h34 hD h hq
  have hF : flt (tokK (l.drop at0)) (tokT (l.drop at0)) = 0 := by
    unfold flt; rw [hK, hTl]
    rw [if_neg (by omega), if_neg (by omega), if_neg (by omega)]
  unfold nxtAt
  rw [nxt_ok hF (show at0 + tokN (l.drop at0) = D + 1 by omega), hK, hT]
  rfl
end

set_option maxHeartbeats 3200000 in
set_option maxRecDepth 10000 in
theorem rtok_text (l : List UInt8) (at0 : Nat) (w : World) (hl : l.length ≤ 1000) (ha : at0 < l.length) (hs : smB l[at0] = false) (hd : dgB l[at0] = false) (h34 : l[at0].toNat = 34) :
    Calls Tryd.prog 21 #[.string ⟨l.toArray⟩, .int .i64 at0] w fun e w' => e = .returned (nxtAt l at0) ∧ Below w.heap.size w w' := by
  have hge : (⟨l.toArray⟩ : ByteArray)[at0]'(by simpa [ByteArray.size] using ha) = l[at0] := rfl
  have e34 : ((l[at0].toNat : Int) == 34) = true := by simp; omega
  generalize hD : at0 + 1 + run txB (l.drop (at0 + 1)) = D
  have VN := hide (tx_none ha hs hd h34 hD)
  have VL := hide (tx_long ha hs hd h34 hD)
  have VO := hide (tx_ok ha hs hd h34 hD)
  have e1 : (ByteArray.mk l.toArray).extract (at0 + 1) D = ByteArray.mk ((l.drop (at0 + 1)).take (D - (at0 + 1))).toArray := lext_eq _ _ _
  generalize (l.drop (at0 + 1)).take (D - (at0 + 1)) = t at *
  generalize nxtAt l at0 = V at *
  have HD0 := hide hD
  have HS := hide hs
  have HD := hide hd
  clear hs hd h34 hD
  go_enter Tryd.func21, Tryd.ntmps21
  go_wp2_with fail
  refine (rletter_any l[at0] _).mono ?_
  rintro e w1 ⟨rfl, rfl⟩
  rw [unhide HS]
  go_wp2_with fail
  refine (rdigit_any l[at0] _).mono ?_
  rintro e w1 ⟨rfl, rfl⟩
  rw [unhide HD]
  go_wp2_with fail
  go_loop [7] (fun i => ∃ k : Nat, at0 + 1 ≤ k ∧ k ≤ l.length ∧ i = .int .i64 k ∧ Hid (k + run txB (l.drop k) = D)) (fun i => l.length - (intOf i).toNat)
  case atStart => exact ⟨at0 + 1, by omega, by omega, by go_num, HD0⟩
  case round =>
    clear HD0
    obtain ⟨k, hk1, hk2, rfl, HR⟩ := hrel
    by_cases hlt : k < l.length
    · have hgk : (⟨l.toArray⟩ : ByteArray)[k]'(by simpa [ByteArray.size] using hlt) = l[k] := rfl
      have ekl : ((k : Int) == (l.length : Int)) = false := by simp; omega
      by_cases hq : l[k].toNat = 34
      · have hkD : k = D := by have := unhide HR; rw [run_no hlt (by unfold txB; rw [hq]; rfl)] at this; exact this
        subst hkD
        have eq : ((l[k].toNat : Int) != 34) = false := by simp; omega
        by_cases h16 : 16 < k - (at0 + 1)
        · have HV := hide (unhide VL hlt hq h16).symm
          have h16' : (16 : Int) < (k : Int) - at0 - 1 := by omega
          clear hq h16 HR
          go_wp2_with fail
          refine bodyPost_ret (v := .tuple #[.agg #[.int .i64 0, .string ⟨#[]⟩, .int .i64 0], .int .i64 (at0 : Int), .int .i64 13]) (by simp [results, Tryd.results21, go_sem]) rfl ⟨ret_val (unhide HV), ?_⟩
          exact below1 w _
        · have HV := hide (unhide VO hlt hq (by omega)).symm
          have h16' : (k : Int) - at0 - 1 ≤ 16 := by omega
          clear hq h16 HR
          go_wp2_with fail
          refine bodyPost_ret (v := .tuple #[.agg #[.int .i64 3, .string ⟨t.toArray⟩, .int .i64 (at0 : Int)], .int .i64 ((k : Int) + 1), .int .i64 0]) (by simp [results, Tryd.results21, go_sem]) rfl ⟨ret_val (unhide HV), ?_⟩
          exact below1 w _
      · have eq : ((l[k].toNat : Int) != 34) = true := by simp; omega
        by_cases h32 : 32 ≤ (l[k].toNat : Int)
        · by_cases h126 : (l[k].toNat : Int) ≤ 126
          · have HE := hide (show k + 1 + run txB (l.drop (k + 1)) = D by rw [← unhide HR]; exact (run_yes hlt (by rw [← tx_eq h32 h126]; exact eq)).symm)
            clear hq
            go_wp2_with fail
            go_round
            case rel => exact ⟨k + 1, by omega, by omega, by go_num, HE⟩
            case measure => simp [intOf]; omega
          · have hkD : k = D := by have := unhide HR; rw [run_no hlt (tx_no (Or.inr (by omega)))] at this; exact this
            subst hkD
            have HV := hide (unhide VN (fun _ => hq)).symm
            clear hq HR
            go_wp2_with fail
            refine bodyPost_ret (v := .tuple #[.agg #[.int .i64 0, .string ⟨#[]⟩, .int .i64 0], .int .i64 (at0 : Int), .int .i64 2]) (by simp [results, Tryd.results21, go_sem]) rfl ⟨ret_val (unhide HV), ?_⟩
            exact below1 w _
        · have hkD : k = D := by have := unhide HR; rw [run_no hlt (tx_no (Or.inl (by omega)))] at this; exact this
          subst hkD
          have HV := hide (unhide VN (fun _ => hq)).symm
          clear hq HR
          go_wp2_with fail
          refine bodyPost_ret (v := .tuple #[.agg #[.int .i64 0, .string ⟨#[]⟩, .int .i64 0], .int .i64 (at0 : Int), .int .i64 2]) (by simp [results, Tryd.results21, go_sem]) rfl ⟨ret_val (unhide HV), ?_⟩
          exact below1 w _
    · have hkD : k = D := by have := unhide HR; rw [run_end (by omega)] at this; exact this
      subst hkD
      have ekl : ((k : Int) == (l.length : Int)) = true := by simp; omega
      have HV := hide (unhide VN (fun h => absurd h hlt)).symm
      clear HR
      go_wp2_with fail
      refine bodyPost_ret (v := .tuple #[.agg #[.int .i64 0, .string ⟨#[]⟩, .int .i64 0], .int .i64 (at0 : Int), .int .i64 2]) (by simp [results, Tryd.results21, go_sem]) rfl ⟨ret_val (unhide HV), ?_⟩
      exact below1 w _

end Go.Proofs.YtlcckhlkmnnjdaaDoor

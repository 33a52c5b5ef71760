/- The contracts of the document's letter, digit, and next. -/
import Derived.Test.YtlcckhlkmnnjdaaDoorLLex
import Derived.Deep.QuietTactic
import Derived.BigQuiet
namespace Go.Proofs.YtlcckhlkmnnjdaaDoor
open Go.RowKit
set_option linter.unusedVariables false

set_option maxHeartbeats 400000 in
theorem rletter_any (c : UInt8) (w : World) : Calls Tryd.prog 28 #[.int .u8 c.toNat] w fun e w' => e = .returned (.bool (smB c)) ∧ w' = w := by
  by_cases h1 : 97 ≤ (c.toNat : Int)
  · by_cases h2 : (c.toNat : Int) ≤ 122
    · have H := hide (sm_yes h1 h2)
      go_enter Tryd.func28, Tryd.ntmps28
      go_wp2
      go_ret
      exact ⟨ret_bool (unhide H).symm, rfl⟩
    · have H := hide (sm_no (c := c) (Or.inr (by omega)))
      go_enter Tryd.func28, Tryd.ntmps28
      go_wp2
      go_ret
      exact ⟨ret_bool (unhide H).symm, rfl⟩
  · have H := hide (sm_no (c := c) (Or.inl (by omega)))
    go_enter Tryd.func28, Tryd.ntmps28
    go_wp2
    go_ret
    exact ⟨ret_bool (unhide H).symm, rfl⟩

set_option maxHeartbeats 400000 in
theorem rdigit_any (c : UInt8) (w : World) : Calls Tryd.prog 29 #[.int .u8 c.toNat] w fun e w' => e = .returned (.bool (dgB c)) ∧ w' = w := by
  by_cases h1 : 48 ≤ (c.toNat : Int)
  · by_cases h2 : (c.toNat : Int) ≤ 57
    · have H := hide (dg_yes h1 h2)
      go_enter Tryd.func29, Tryd.ntmps29
      go_wp2
      go_ret
      exact ⟨ret_bool (unhide H).symm, rfl⟩
    · have H := hide (dg_no (c := c) (Or.inr (by omega)))
      go_enter Tryd.func29, Tryd.ntmps29
      go_wp2
      go_ret
      exact ⟨ret_bool (unhide H).symm, rfl⟩
  · have H := hide (dg_no (c := c) (Or.inl (by omega)))
    go_enter Tryd.func29, Tryd.ntmps29
    go_wp2
    go_ret
    exact ⟨ret_bool (unhide H).symm, rfl⟩

/- what next answers. -/
def nxtV (K N : Nat) (T : List UInt8) (at0 F : Nat) : Value := if F = 0 then .tuple #[.agg #[.int .i64 (K : Int), .string ⟨T.toArray⟩, .int .i64 (at0 : Int)], .int .i64 ((at0 + N : Nat) : Int), .int .i64 0] else .tuple #[.agg #[.int .i64 0, .string ⟨#[]⟩, .int .i64 0], .int .i64 (at0 : Int), .int .i64 (F : Int)]
theorem nxt_ok {K N : Nat} {T : List UInt8} {at0 F E : Nat} (h : F = 0) (hE : at0 + N = E) : nxtV K N T at0 F = .tuple #[.agg #[.int .i64 (K : Int), .string ⟨T.toArray⟩, .int .i64 (at0 : Int)], .int .i64 (E : Int), .int .i64 0] := by unfold nxtV; rw [if_pos h, hE]
theorem nxt_err {K N : Nat} {T : List UInt8} {at0 F : Nat} (h : F ≠ 0) : nxtV K N T at0 F = .tuple #[.agg #[.int .i64 0, .string ⟨#[]⟩, .int .i64 0], .int .i64 (at0 : Int), .int .i64 (F : Int)] := by unfold nxtV; rw [if_neg h]
theorem ret_val {a b : Value} (h : a = b) : Ending.returned a = .returned b := by rw [h]
theorem below4 {w w2 : World} {v0 v1 v2 : Value} {b : Nat} (k : Below w.heap.size w w2) (hb : w.heap.size ≤ b) : Below w.heap.size w (((w2.setCell ⟨b, 0, none⟩ v0).setCell ⟨b, 1, none⟩ v1).setCell ⟨b, 2, none⟩ v2) := ((k.setCell hb v0).setCell hb v1).setCell hb v2

set_option maxHeartbeats 3200000 in
set_option maxRecDepth 10000 in
theorem rname_any (l : List UInt8) (at0 : Nat) (w : World) (hl : l.length ≤ 1000) (ha : at0 < l.length) (hs : smB l[at0] = true) :
    Calls Tryd.prog 21 #[.string ⟨l.toArray⟩, .int .i64 at0] w fun e w' => e = .returned (nxtV 1 (run nmB (l.drop at0)) ((l.drop at0).take (run nmB (l.drop at0))) at0 (flt 1 ((l.drop at0).take (run nmB (l.drop at0))))) ∧ Below w.heap.size w w' := by
  have hge : (⟨l.toArray⟩ : ByteArray)[at0]'(by simpa [ByteArray.size] using ha) = l[at0] := rfl
  have h1 := run_le nmB (l.drop at0)
  have htl : ((l.drop at0).take (run nmB (l.drop at0))).length = run nmB (l.drop at0) := by rw [List.length_take]; omega
  rw [List.length_drop] at h1
  have e1 : (ByteArray.mk l.toArray).extract at0 (at0 + run nmB (l.drop at0)) = ByteArray.mk ((l.drop at0).take (run nmB (l.drop at0))).toArray := by rw [lext_eq, Nat.add_sub_cancel_left]
  generalize (l.drop at0).take (run nmB (l.drop at0)) = t at *
  generalize hV0 : nxtV 1 (run nmB (l.drop at0)) t at0 (flt 1 t) = V
  have HV0 := hide hV0
  have hEl : at0 + run nmB (l.drop at0) ≤ l.length := by omega
  have htE : at0 + t.length = at0 + run nmB (l.drop at0) := by omega
  rw [← htl] at HV0
  clear hV0 htl h1
  generalize hEE : at0 + run nmB (l.drop at0) = E at e1 hEl htE
  have HE0 := hide hEE
  have HTE := hide htE
  clear hEE htE
  have HS := hide hs
  clear hs
  go_enter Tryd.func21, Tryd.ntmps21
  go_wp2_with fail
  refine (rletter_any l[at0] _).mono ?_
  rintro e w1 ⟨rfl, rfl⟩
  rw [unhide HS]
  go_wp2_with fail
  go_loop [7] (fun i => ∃ k : Nat, at0 ≤ k ∧ k ≤ l.length ∧ i = .int .i64 k ∧ Hid (k + run nmB (l.drop k) = E)) (fun i => l.length - (intOf i).toNat)
  case atStart => exact ⟨at0, by omega, by omega, rfl, HE0⟩
  case round =>
    clear HE0
    obtain ⟨k, hk1, hk2, rfl, HR⟩ := hrel
    by_cases hlt : k < l.length
    · have hgk : (⟨l.toArray⟩ : ByteArray)[k]'(by simpa [ByteArray.size] using hlt) = l[k] := rfl
      cases hsk : smB l[k]
      · have HSK := hide hsk
        cases hdk : dgB l[k]
        · have HDK := hide hdk
          have HN := hide (show run nmB (l.drop k) = 0 from run_no hlt (by unfold nmB; rw [hsk, hdk]; rfl))
          clear hsk hdk
          go_wp2_with fail
          refine (rletter_any l[k] _).mono ?_
          rintro e w1 ⟨rfl, rfl⟩
          rw [unhide HSK]
          go_wp2_with fail
          refine (rdigit_any l[k] _).mono ?_
          rintro e w1 ⟨rfl, rfl⟩
          rw [unhide HDK]
          have e : k = E := by have := unhide HR; rw [unhide HN] at this; exact this
          have htE := unhide HTE
          subst e
          by_cases h8 : 8 < t.length
          · have h8' : (8 : Int) < (k : Int) - at0 := by omega
            have ht1 : t.length ≤ 1000 := by omega
            cases hw : wordB t
            · have HW := hide hw
              have HV := hide (show .tuple #[.agg #[.int .i64 0, .string ⟨#[]⟩, .int .i64 0], .int .i64 (at0 : Int), .int .i64 13] = V by
                rw [← unhide HV0]; have : flt 1 t = 13 := by simp [flt, h8, hw]
                rw [this]; exact (nxt_err (F := 13) (by omega)).symm)
              clear hw h8 htE
              go_wp2_with fail
              refine (rword_any t _ ht1).mono ?_
              rintro e w2 ⟨rfl, b2⟩
              rw [unhide HW]
              have c0 : w2.cell? ⟨w.heap.size, 0, none⟩ = some (.int .i64 0) := ((bcell b2).1 _ _ (by simp)).trans (by go_simp)
              have c1 : w2.cell? ⟨w.heap.size, 1, none⟩ = some (.string ⟨#[]⟩) := ((bcell b2).1 _ _ (by simp)).trans (by go_simp)
              have c2 : w2.cell? ⟨w.heap.size, 2, none⟩ = some (.int .i64 0) := ((bcell b2).1 _ _ (by simp)).trans (by go_simp)
              have f0 : w2.frozen? ⟨w.heap.size, 0, none⟩ = false := ((bcell b2).2 _ _ (by simp)).trans (by go_simp)
              have f1 : w2.frozen? ⟨w.heap.size, 1, none⟩ = false := ((bcell b2).2 _ _ (by simp)).trans (by go_simp)
              have f2 : w2.frozen? ⟨w.heap.size, 2, none⟩ = false := ((bcell b2).2 _ _ (by simp)).trans (by go_simp)
              have z2 : w.heap.size < w2.heap.size := by have := b2.size; simp at this; omega
              have b3 := bstep (below1 w _) b2
              clear b2
              go_wp2_with fail
              refine bodyPost_ret (v := .tuple #[.agg #[.int .i64 0, .string ⟨#[]⟩, .int .i64 0], .int .i64 (at0 : Int), .int .i64 13]) (by simp [results, Tryd.results21, go_sem, c0, c1, c2]) rfl ⟨ret_val (unhide HV), ?_⟩
              exact below4 b3 (Nat.le_refl _)

            · have HW := hide hw
              have HV := hide (show .tuple #[.agg #[.int .i64 1, .string ⟨t.toArray⟩, .int .i64 (at0 : Int)], .int .i64 (k : Int), .int .i64 0] = V by
                rw [← unhide HV0]; have : flt 1 t = 0 := by simp [flt, hw]
                exact (nxt_ok this (by omega)).symm)
              clear hw h8 htE
              go_wp2_with fail
              refine (rword_any t _ ht1).mono ?_
              rintro e w2 ⟨rfl, b2⟩
              rw [unhide HW]
              have c0 : w2.cell? ⟨w.heap.size, 0, none⟩ = some (.int .i64 0) := ((bcell b2).1 _ _ (by simp)).trans (by go_simp)
              have c1 : w2.cell? ⟨w.heap.size, 1, none⟩ = some (.string ⟨#[]⟩) := ((bcell b2).1 _ _ (by simp)).trans (by go_simp)
              have c2 : w2.cell? ⟨w.heap.size, 2, none⟩ = some (.int .i64 0) := ((bcell b2).1 _ _ (by simp)).trans (by go_simp)
              have f0 : w2.frozen? ⟨w.heap.size, 0, none⟩ = false := ((bcell b2).2 _ _ (by simp)).trans (by go_simp)
              have f1 : w2.frozen? ⟨w.heap.size, 1, none⟩ = false := ((bcell b2).2 _ _ (by simp)).trans (by go_simp)
              have f2 : w2.frozen? ⟨w.heap.size, 2, none⟩ = false := ((bcell b2).2 _ _ (by simp)).trans (by go_simp)
              have z2 : w.heap.size < w2.heap.size := by have := b2.size; simp at this; omega
              have b3 := bstep (below1 w _) b2
              clear b2
              go_wp2_with fail
              refine bodyPost_ret (v := .tuple #[.agg #[.int .i64 1, .string ⟨t.toArray⟩, .int .i64 (at0 : Int)], .int .i64 (k : Int), .int .i64 0]) (by simp [results, Tryd.results21, go_sem, c0, c1, c2]) rfl ⟨ret_val (unhide HV), ?_⟩
              exact below4 b3 (Nat.le_refl _)

          · have h8' : (k : Int) - at0 ≤ 8 := by omega
            have HV := hide (show .tuple #[.agg #[.int .i64 1, .string ⟨t.toArray⟩, .int .i64 (at0 : Int)], .int .i64 (k : Int), .int .i64 0] = V by
              rw [← unhide HV0]; have : flt 1 t = 0 := by simp [flt, h8]
              exact (nxt_ok this (by omega)).symm)
            clear h8 htE
            go_wp2_with fail
            refine bodyPost_ret (v := .tuple #[.agg #[.int .i64 1, .string ⟨t.toArray⟩, .int .i64 (at0 : Int)], .int .i64 (k : Int), .int .i64 0]) (by simp [results, Tryd.results21, go_sem]) rfl ⟨ret_val (unhide HV), ?_⟩
            exact below1 w _
        · have HDK := hide hdk
          have HE := hide (show k + 1 + run nmB (l.drop (k + 1)) = E by rw [← unhide HR]; exact (run_yes hlt (by unfold nmB; rw [hsk, hdk]; rfl)).symm)
          clear hsk hdk
          go_wp2_with fail
          refine (rletter_any l[k] _).mono ?_
          rintro e w1 ⟨rfl, rfl⟩
          rw [unhide HSK]
          go_wp2_with fail
          refine (rdigit_any l[k] _).mono ?_
          rintro e w1 ⟨rfl, rfl⟩
          rw [unhide HDK]
          go_wp2_with fail
          go_round
          case rel => exact ⟨k + 1, by omega, by omega, by go_num, HE⟩
          case measure => simp [intOf]; omega
      · have HSK := hide hsk
        have HE := hide (show k + 1 + run nmB (l.drop (k + 1)) = E by rw [← unhide HR]; exact (run_yes hlt (by unfold nmB; rw [hsk]; rfl)).symm)
        clear hsk
        go_wp2_with fail
        refine (rletter_any l[k] _).mono ?_
        rintro e w1 ⟨rfl, rfl⟩
        rw [unhide HSK]
        go_wp2_with fail
        go_round
        case rel => exact ⟨k + 1, by omega, by omega, by go_num, HE⟩
        case measure => simp [intOf]; omega
    · have hke : k = E := by have := unhide HR; rw [run_end (by omega)] at this; exact this
      have HKE := hide hke
      clear hke
      have e : k = E := unhide HKE
      have htE := unhide HTE
      subst e
      by_cases h8 : 8 < t.length
      · have h8' : (8 : Int) < (k : Int) - at0 := by omega
        have ht1 : t.length ≤ 1000 := by omega
        cases hw : wordB t
        · have HW := hide hw
          have HV := hide (show .tuple #[.agg #[.int .i64 0, .string ⟨#[]⟩, .int .i64 0], .int .i64 (at0 : Int), .int .i64 13] = V by
            rw [← unhide HV0]; have : flt 1 t = 13 := by simp [flt, h8, hw]
            rw [this]; exact (nxt_err (F := 13) (by omega)).symm)
          clear hw h8 htE
          go_wp2_with fail
          refine (rword_any t _ ht1).mono ?_
          rintro e w2 ⟨rfl, b2⟩
          rw [unhide HW]
          have c0 : w2.cell? ⟨w.heap.size, 0, none⟩ = some (.int .i64 0) := ((bcell b2).1 _ _ (by simp)).trans (by go_simp)
          have c1 : w2.cell? ⟨w.heap.size, 1, none⟩ = some (.string ⟨#[]⟩) := ((bcell b2).1 _ _ (by simp)).trans (by go_simp)
          have c2 : w2.cell? ⟨w.heap.size, 2, none⟩ = some (.int .i64 0) := ((bcell b2).1 _ _ (by simp)).trans (by go_simp)
          have f0 : w2.frozen? ⟨w.heap.size, 0, none⟩ = false := ((bcell b2).2 _ _ (by simp)).trans (by go_simp)
          have f1 : w2.frozen? ⟨w.heap.size, 1, none⟩ = false := ((bcell b2).2 _ _ (by simp)).trans (by go_simp)
          have f2 : w2.frozen? ⟨w.heap.size, 2, none⟩ = false := ((bcell b2).2 _ _ (by simp)).trans (by go_simp)
          have z2 : w.heap.size < w2.heap.size := by have := b2.size; simp at this; omega
          have b3 := bstep (below1 w _) b2
          clear b2
          go_wp2_with fail
          refine bodyPost_ret (v := .tuple #[.agg #[.int .i64 0, .string ⟨#[]⟩, .int .i64 0], .int .i64 (at0 : Int), .int .i64 13]) (by simp [results, Tryd.results21, go_sem, c0, c1, c2]) rfl ⟨ret_val (unhide HV), ?_⟩
          exact below4 b3 (Nat.le_refl _)

        · have HW := hide hw
          have HV := hide (show .tuple #[.agg #[.int .i64 1, .string ⟨t.toArray⟩, .int .i64 (at0 : Int)], .int .i64 (k : Int), .int .i64 0] = V by
            rw [← unhide HV0]; have : flt 1 t = 0 := by simp [flt, hw]
            exact (nxt_ok this (by omega)).symm)
          clear hw h8 htE
          go_wp2_with fail
          refine (rword_any t _ ht1).mono ?_
          rintro e w2 ⟨rfl, b2⟩
          rw [unhide HW]
          have c0 : w2.cell? ⟨w.heap.size, 0, none⟩ = some (.int .i64 0) := ((bcell b2).1 _ _ (by simp)).trans (by go_simp)
          have c1 : w2.cell? ⟨w.heap.size, 1, none⟩ = some (.string ⟨#[]⟩) := ((bcell b2).1 _ _ (by simp)).trans (by go_simp)
          have c2 : w2.cell? ⟨w.heap.size, 2, none⟩ = some (.int .i64 0) := ((bcell b2).1 _ _ (by simp)).trans (by go_simp)
          have f0 : w2.frozen? ⟨w.heap.size, 0, none⟩ = false := ((bcell b2).2 _ _ (by simp)).trans (by go_simp)
          have f1 : w2.frozen? ⟨w.heap.size, 1, none⟩ = false := ((bcell b2).2 _ _ (by simp)).trans (by go_simp)
          have f2 : w2.frozen? ⟨w.heap.size, 2, none⟩ = false := ((bcell b2).2 _ _ (by simp)).trans (by go_simp)
          have z2 : w.heap.size < w2.heap.size := by have := b2.size; simp at this; omega
          have b3 := bstep (below1 w _) b2
          clear b2
          go_wp2_with fail
          refine bodyPost_ret (v := .tuple #[.agg #[.int .i64 1, .string ⟨t.toArray⟩, .int .i64 (at0 : Int)], .int .i64 (k : Int), .int .i64 0]) (by simp [results, Tryd.results21, go_sem, c0, c1, c2]) rfl ⟨ret_val (unhide HV), ?_⟩
          exact below4 b3 (Nat.le_refl _)

      · have h8' : (k : Int) - at0 ≤ 8 := by omega
        have HV := hide (show .tuple #[.agg #[.int .i64 1, .string ⟨t.toArray⟩, .int .i64 (at0 : Int)], .int .i64 (k : Int), .int .i64 0] = V by
          rw [← unhide HV0]; have : flt 1 t = 0 := by simp [flt, h8]
          exact (nxt_ok this (by omega)).symm)
        clear h8 htE
        go_wp2_with fail
        refine bodyPost_ret (v := .tuple #[.agg #[.int .i64 1, .string ⟨t.toArray⟩, .int .i64 (at0 : Int)], .int .i64 (k : Int), .int .i64 0]) (by simp [results, Tryd.results21, go_sem]) rfl ⟨ret_val (unhide HV), ?_⟩
        exact below1 w _

end Go.Proofs.YtlcckhlkmnnjdaaDoor

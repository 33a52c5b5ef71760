/- RLName RLText RLNum RLSign RLLex LAll: laid together. -/
import Derived.Test.YtdlfgnmcokdceabDoorGC
import Derived.Deep.QuietTactic
import Derived.BigQuiet
import Derived.BigRegion
/- The contracts of the document's letter, digit, and next. -/
namespace Go.Proofs.YtdlfgnmcokdceabDoor
open Go.RowKit
set_option linter.unusedVariables false

set_option maxHeartbeats 400000 in
theorem rletter_any (c : UInt8) (w : World) : Calls Tryd.prog 34 #[.int .u8 c.toNat] w fun e w' => e = .returned (.bool (smB c)) ∧ w' = w := by
  by_cases h1 : 97 ≤ (c.toNat : Int)
  · by_cases h2 : (c.toNat : Int) ≤ 122
    · have H := hide (sm_yes h1 h2)
      go_enter Tryd.func34, Tryd.ntmps34
      go_wp2
      go_ret
      exact ⟨ret_bool (unhide H).symm, rfl⟩
    · have H := hide (sm_no (c := c) (Or.inr (by omega)))
      go_enter Tryd.func34, Tryd.ntmps34
      go_wp2
      go_ret
      exact ⟨ret_bool (unhide H).symm, rfl⟩
  · have H := hide (sm_no (c := c) (Or.inl (by omega)))
    go_enter Tryd.func34, Tryd.ntmps34
    go_wp2
    go_ret
    exact ⟨ret_bool (unhide H).symm, rfl⟩

set_option maxHeartbeats 400000 in
theorem rdigit_any (c : UInt8) (w : World) : Calls Tryd.prog 35 #[.int .u8 c.toNat] w fun e w' => e = .returned (.bool (dgB c)) ∧ w' = w := by
  by_cases h1 : 48 ≤ (c.toNat : Int)
  · by_cases h2 : (c.toNat : Int) ≤ 57
    · have H := hide (dg_yes h1 h2)
      go_enter Tryd.func35, Tryd.ntmps35
      go_wp2
      go_ret
      exact ⟨ret_bool (unhide H).symm, rfl⟩
    · have H := hide (dg_no (c := c) (Or.inr (by omega)))
      go_enter Tryd.func35, Tryd.ntmps35
      go_wp2
      go_ret
      exact ⟨ret_bool (unhide H).symm, rfl⟩
  · have H := hide (dg_no (c := c) (Or.inl (by omega)))
    go_enter Tryd.func35, Tryd.ntmps35
    go_wp2
    go_ret
    exact ⟨ret_bool (unhide H).symm, rfl⟩

/- what next answers. -/
def nxtV (K N : Nat) (T : List UInt8) (at0 F : Nat) : Value := if F = 0 then .tuple #[.agg #[.int .i64 (K : Int), .string ⟨T.toArray⟩, .int .i64 (at0 : Int)], .int .i64 ((at0 + N : Nat) : Int), .int .i64 0] else .tuple #[.agg #[.int .i64 0, .string ⟨#[]⟩, .int .i64 0], .int .i64 (at0 : Int), .int .i64 (F : Int)]
theorem nxt_ok {K N : Nat} {T : List UInt8} {at0 F E : Nat} (h : F = 0) (hE : at0 + N = E) : nxtV K N T at0 F = .tuple #[.agg #[.int .i64 (K : Int), .string ⟨T.toArray⟩, .int .i64 (at0 : Int)], .int .i64 (E : Int), .int .i64 0] := by unfold nxtV; rw [if_pos h, hE]
theorem nxt_err {K N : Nat} {T : List UInt8} {at0 F : Nat} (h : F ≠ 0) : nxtV K N T at0 F = .tuple #[.agg #[.int .i64 0, .string ⟨#[]⟩, .int .i64 0], .int .i64 (at0 : Int), .int .i64 (F : Int)] := by unfold nxtV; rw [if_neg h]
theorem ret_val {a b : Value} (h : a = b) : Ending.returned a = .returned b := by rw [h]
theorem below4 {w w2 : World} {v0 v1 v2 : Value} {b : Nat} (k : Below w.heap.size w w2) (hb : w.heap.size ≤ b) : Below w.heap.size w (((w2.setCell ⟨b, 0, none⟩ v0).setCell ⟨b, 1, none⟩ v1).setCell ⟨b, 2, none⟩ v2) := ((k.setCell hb v0).setCell hb v1).setCell hb v2

set_option maxHeartbeats 3200000 in
set_option maxRecDepth 10000 in
theorem rname_any (l : List UInt8) (at0 : Nat) (w : World) (hl : l.length ≤ 1000) (ha : at0 < l.length) (hs : smB l[at0] = true) :
    Calls Tryd.prog 23 #[.string ⟨l.toArray⟩, .int .i64 at0] w fun e w' => e = .returned (nxtV 1 (run nmB (l.drop at0)) ((l.drop at0).take (run nmB (l.drop at0))) at0 (flt 1 ((l.drop at0).take (run nmB (l.drop at0))))) ∧ Below w.heap.size w w' := by
  have hge : (⟨l.toArray⟩ : ByteArray)[at0]'(by simpa [ByteArray.size] using ha) = l[at0] := rfl
  have h1 := run_le nmB (l.drop at0)
  have htl : ((l.drop at0).take (run nmB (l.drop at0))).length = run nmB (l.drop at0) := by rw [List.length_take]; omega
  rw [List.length_drop] at h1
  have e1 : (ByteArray.mk l.toArray).extract at0 (at0 + run nmB (l.drop at0)) = ByteArray.mk ((l.drop at0).take (run nmB (l.drop at0))).toArray := by rw [lext_eq, Nat.add_sub_cancel_left]
  generalize (l.drop at0).take (run nmB (l.drop at0)) = t at *
  generalize hV0 : nxtV 1 (run nmB (l.drop at0)) t at0 (flt 1 t) = V
  have HV0 := hide hV0
  have hEl : at0 + run nmB (l.drop at0) ≤ l.length := by omega
  have htE : at0 + t.length = at0 + run nmB (l.drop at0) := by omega
  rw [← htl] at HV0
  clear hV0 htl h1
  generalize hEE : at0 + run nmB (l.drop at0) = E at e1 hEl htE
  have HE0 := hide hEE
  have HTE := hide htE
  clear hEE htE
  have HS := hide hs
  clear hs
  go_enter Tryd.func23, Tryd.ntmps23
  go_wp2_with fail
  refine (rletter_any l[at0] _).mono ?_
  rintro e w1 ⟨rfl, rfl⟩
  rw [unhide HS]
  go_wp2_with fail
  go_loop [7] (fun i => ∃ k : Nat, at0 ≤ k ∧ k ≤ l.length ∧ i = .int .i64 k ∧ Hid (k + run nmB (l.drop k) = E)) (fun i => l.length - (intOf i).toNat)
  case atStart => exact ⟨at0, by omega, by omega, rfl, HE0⟩
  case round =>
    clear HE0
    obtain ⟨k, hk1, hk2, rfl, HR⟩ := hrel
    by_cases hlt : k < l.length
    · have hgk : (⟨l.toArray⟩ : ByteArray)[k]'(by simpa [ByteArray.size] using hlt) = l[k] := rfl
      cases hsk : smB l[k]
      · have HSK := hide hsk
        cases hdk : dgB l[k]
        · have HDK := hide hdk
          have HN := hide (show run nmB (l.drop k) = 0 from run_no hlt (by unfold nmB; rw [hsk, hdk]; rfl))
          clear hsk hdk
          go_wp2_with fail
          refine (rletter_any l[k] _).mono ?_
          rintro e w1 ⟨rfl, rfl⟩
          rw [unhide HSK]
          go_wp2_with fail
          refine (rdigit_any l[k] _).mono ?_
          rintro e w1 ⟨rfl, rfl⟩
          rw [unhide HDK]
          have e : k = E := by have := unhide HR; rw [unhide HN] at this; exact this
          have htE := unhide HTE
          subst e
          by_cases h8 : 8 < t.length
          · have h8' : (8 : Int) < (k : Int) - at0 := by omega
            have ht1 : t.length ≤ 1000 := by omega
            cases hw : wordB t
            · have HW := hide hw
              have HV := hide (show .tuple #[.agg #[.int .i64 0, .string ⟨#[]⟩, .int .i64 0], .int .i64 (at0 : Int), .int .i64 13] = V by
                rw [← unhide HV0]; have : flt 1 t = 13 := by simp [flt, h8, hw]
                rw [this]; exact (nxt_err (F := 13) (by omega)).symm)
              clear hw h8 htE
              go_wp2_with fail
              refine (rword_any t _ ht1).mono ?_
              rintro e w2 ⟨rfl, b2⟩
              rw [unhide HW]
              have c0 : w2.cell? ⟨w.heap.size, 0, none⟩ = some (.int .i64 0) := ((bcell b2).1 _ _ (by simp)).trans (by go_simp)
              have c1 : w2.cell? ⟨w.heap.size, 1, none⟩ = some (.string ⟨#[]⟩) := ((bcell b2).1 _ _ (by simp)).trans (by go_simp)
              have c2 : w2.cell? ⟨w.heap.size, 2, none⟩ = some (.int .i64 0) := ((bcell b2).1 _ _ (by simp)).trans (by go_simp)
              have f0 : w2.frozen? ⟨w.heap.size, 0, none⟩ = false := ((bcell b2).2 _ _ (by simp)).trans (by go_simp)
              have f1 : w2.frozen? ⟨w.heap.size, 1, none⟩ = false := ((bcell b2).2 _ _ (by simp)).trans (by go_simp)
              have f2 : w2.frozen? ⟨w.heap.size, 2, none⟩ = false := ((bcell b2).2 _ _ (by simp)).trans (by go_simp)
              have z2 : w.heap.size < w2.heap.size := by have := b2.size; simp at this; omega
              have b3 := bstep (below1 w _) b2
              clear b2
              go_wp2_with fail
              refine bodyPost_ret (v := .tuple #[.agg #[.int .i64 0, .string ⟨#[]⟩, .int .i64 0], .int .i64 (at0 : Int), .int .i64 13]) (by simp [results, Tryd.results23, go_sem, c0, c1, c2]) rfl ⟨ret_val (unhide HV), ?_⟩
              exact below4 b3 (Nat.le_refl _)

            · have HW := hide hw
              have HV := hide (show .tuple #[.agg #[.int .i64 1, .string ⟨t.toArray⟩, .int .i64 (at0 : Int)], .int .i64 (k : Int), .int .i64 0] = V by
                rw [← unhide HV0]; have : flt 1 t = 0 := by simp [flt, hw]
                exact (nxt_ok this (by omega)).symm)
              clear hw h8 htE
              go_wp2_with fail
              refine (rword_any t _ ht1).mono ?_
              rintro e w2 ⟨rfl, b2⟩
              rw [unhide HW]
              have c0 : w2.cell? ⟨w.heap.size, 0, none⟩ = some (.int .i64 0) := ((bcell b2).1 _ _ (by simp)).trans (by go_simp)
              have c1 : w2.cell? ⟨w.heap.size, 1, none⟩ = some (.string ⟨#[]⟩) := ((bcell b2).1 _ _ (by simp)).trans (by go_simp)
              have c2 : w2.cell? ⟨w.heap.size, 2, none⟩ = some (.int .i64 0) := ((bcell b2).1 _ _ (by simp)).trans (by go_simp)
              have f0 : w2.frozen? ⟨w.heap.size, 0, none⟩ = false := ((bcell b2).2 _ _ (by simp)).trans (by go_simp)
              have f1 : w2.frozen? ⟨w.heap.size, 1, none⟩ = false := ((bcell b2).2 _ _ (by simp)).trans (by go_simp)
              have f2 : w2.frozen? ⟨w.heap.size, 2, none⟩ = false := ((bcell b2).2 _ _ (by simp)).trans (by go_simp)
              have z2 : w.heap.size < w2.heap.size := by have := b2.size; simp at this; omega
              have b3 := bstep (below1 w _) b2
              clear b2
              go_wp2_with fail
              refine bodyPost_ret (v := .tuple #[.agg #[.int .i64 1, .string ⟨t.toArray⟩, .int .i64 (at0 : Int)], .int .i64 (k : Int), .int .i64 0]) (by simp [results, Tryd.results23, go_sem, c0, c1, c2]) rfl ⟨ret_val (unhide HV), ?_⟩
              exact below4 b3 (Nat.le_refl _)

          · have h8' : (k : Int) - at0 ≤ 8 := by omega
            have HV := hide (show .tuple #[.agg #[.int .i64 1, .string ⟨t.toArray⟩, .int .i64 (at0 : Int)], .int .i64 (k : Int), .int .i64 0] = V by
              rw [← unhide HV0]; have : flt 1 t = 0 := by simp [flt, h8]
              exact (nxt_ok this (by omega)).symm)
            clear h8 htE
            go_wp2_with fail
            refine bodyPost_ret (v := .tuple #[.agg #[.int .i64 1, .string ⟨t.toArray⟩, .int .i64 (at0 : Int)], .int .i64 (k : Int), .int .i64 0]) (by simp [results, Tryd.results23, go_sem]) rfl ⟨ret_val (unhide HV), ?_⟩
            exact below1 w _
        · have HDK := hide hdk
          have HE := hide (show k + 1 + run nmB (l.drop (k + 1)) = E by rw [← unhide HR]; exact (run_yes hlt (by unfold nmB; rw [hsk, hdk]; rfl)).symm)
          clear hsk hdk
          go_wp2_with fail
          refine (rletter_any l[k] _).mono ?_
          rintro e w1 ⟨rfl, rfl⟩
          rw [unhide HSK]
          go_wp2_with fail
          refine (rdigit_any l[k] _).mono ?_
          rintro e w1 ⟨rfl, rfl⟩
          rw [unhide HDK]
          go_wp2_with fail
          go_round
          case rel => exact ⟨k + 1, by omega, by omega, by go_num, HE⟩
          case measure => simp [intOf]; omega
      · have HSK := hide hsk
        have HE := hide (show k + 1 + run nmB (l.drop (k + 1)) = E by rw [← unhide HR]; exact (run_yes hlt (by unfold nmB; rw [hsk]; rfl)).symm)
        clear hsk
        go_wp2_with fail
        refine (rletter_any l[k] _).mono ?_
        rintro e w1 ⟨rfl, rfl⟩
        rw [unhide HSK]
        go_wp2_with fail
        go_round
        case rel => exact ⟨k + 1, by omega, by omega, by go_num, HE⟩
        case measure => simp [intOf]; omega
    · have hke : k = E := by have := unhide HR; rw [run_end (by omega)] at this; exact this
      have HKE := hide hke
      clear hke
      have e : k = E := unhide HKE
      have htE := unhide HTE
      subst e
      by_cases h8 : 8 < t.length
      · have h8' : (8 : Int) < (k : Int) - at0 := by omega
        have ht1 : t.length ≤ 1000 := by omega
        cases hw : wordB t
        · have HW := hide hw
          have HV := hide (show .tuple #[.agg #[.int .i64 0, .string ⟨#[]⟩, .int .i64 0], .int .i64 (at0 : Int), .int .i64 13] = V by
            rw [← unhide HV0]; have : flt 1 t = 13 := by simp [flt, h8, hw]
            rw [this]; exact (nxt_err (F := 13) (by omega)).symm)
          clear hw h8 htE
          go_wp2_with fail
          refine (rword_any t _ ht1).mono ?_
          rintro e w2 ⟨rfl, b2⟩
          rw [unhide HW]
          have c0 : w2.cell? ⟨w.heap.size, 0, none⟩ = some (.int .i64 0) := ((bcell b2).1 _ _ (by simp)).trans (by go_simp)
          have c1 : w2.cell? ⟨w.heap.size, 1, none⟩ = some (.string ⟨#[]⟩) := ((bcell b2).1 _ _ (by simp)).trans (by go_simp)
          have c2 : w2.cell? ⟨w.heap.size, 2, none⟩ = some (.int .i64 0) := ((bcell b2).1 _ _ (by simp)).trans (by go_simp)
          have f0 : w2.frozen? ⟨w.heap.size, 0, none⟩ = false := ((bcell b2).2 _ _ (by simp)).trans (by go_simp)
          have f1 : w2.frozen? ⟨w.heap.size, 1, none⟩ = false := ((bcell b2).2 _ _ (by simp)).trans (by go_simp)
          have f2 : w2.frozen? ⟨w.heap.size, 2, none⟩ = false := ((bcell b2).2 _ _ (by simp)).trans (by go_simp)
          have z2 : w.heap.size < w2.heap.size := by have := b2.size; simp at this; omega
          have b3 := bstep (below1 w _) b2
          clear b2
          go_wp2_with fail
          refine bodyPost_ret (v := .tuple #[.agg #[.int .i64 0, .string ⟨#[]⟩, .int .i64 0], .int .i64 (at0 : Int), .int .i64 13]) (by simp [results, Tryd.results23, go_sem, c0, c1, c2]) rfl ⟨ret_val (unhide HV), ?_⟩
          exact below4 b3 (Nat.le_refl _)

        · have HW := hide hw
          have HV := hide (show .tuple #[.agg #[.int .i64 1, .string ⟨t.toArray⟩, .int .i64 (at0 : Int)], .int .i64 (k : Int), .int .i64 0] = V by
            rw [← unhide HV0]; have : flt 1 t = 0 := by simp [flt, hw]
            exact (nxt_ok this (by omega)).symm)
          clear hw h8 htE
          go_wp2_with fail
          refine (rword_any t _ ht1).mono ?_
          rintro e w2 ⟨rfl, b2⟩
          rw [unhide HW]
          have c0 : w2.cell? ⟨w.heap.size, 0, none⟩ = some (.int .i64 0) := ((bcell b2).1 _ _ (by simp)).trans (by go_simp)
          have c1 : w2.cell? ⟨w.heap.size, 1, none⟩ = some (.string ⟨#[]⟩) := ((bcell b2).1 _ _ (by simp)).trans (by go_simp)
          have c2 : w2.cell? ⟨w.heap.size, 2, none⟩ = some (.int .i64 0) := ((bcell b2).1 _ _ (by simp)).trans (by go_simp)
          have f0 : w2.frozen? ⟨w.heap.size, 0, none⟩ = false := ((bcell b2).2 _ _ (by simp)).trans (by go_simp)
          have f1 : w2.frozen? ⟨w.heap.size, 1, none⟩ = false := ((bcell b2).2 _ _ (by simp)).trans (by go_simp)
          have f2 : w2.frozen? ⟨w.heap.size, 2, none⟩ = false := ((bcell b2).2 _ _ (by simp)).trans (by go_simp)
          have z2 : w.heap.size < w2.heap.size := by have := b2.size; simp at this; omega
          have b3 := bstep (below1 w _) b2
          clear b2
          go_wp2_with fail
          refine bodyPost_ret (v := .tuple #[.agg #[.int .i64 1, .string ⟨t.toArray⟩, .int .i64 (at0 : Int)], .int .i64 (k : Int), .int .i64 0]) (by simp [results, Tryd.results23, go_sem, c0, c1, c2]) rfl ⟨ret_val (unhide HV), ?_⟩
          exact below4 b3 (Nat.le_refl _)

      · have h8' : (k : Int) - at0 ≤ 8 := by omega
        have HV := hide (show .tuple #[.agg #[.int .i64 1, .string ⟨t.toArray⟩, .int .i64 (at0 : Int)], .int .i64 (k : Int), .int .i64 0] = V by
          rw [← unhide HV0]; have : flt 1 t = 0 := by simp [flt, h8]
          exact (nxt_ok this (by omega)).symm)
        clear h8 htE
        go_wp2_with fail
        refine bodyPost_ret (v := .tuple #[.agg #[.int .i64 1, .string ⟨t.toArray⟩, .int .i64 (at0 : Int)], .int .i64 (k : Int), .int .i64 0]) (by simp [results, Tryd.results23, go_sem]) rfl ⟨ret_val (unhide HV), ?_⟩
        exact below1 w _

end Go.Proofs.YtdlfgnmcokdceabDoor

/- The contract of the document's next at a text. -/
namespace Go.Proofs.YtdlfgnmcokdceabDoor
open Go.RowKit
set_option linter.unusedVariables false

section
variable {l : List UInt8} {at0 D : Nat}
theorem saidL_three {r : List UInt8} {R : Nat} (h : R + 2 ≤ r.length) : saidL 3 (r.take (1 + R + 1)) = (r.drop 1).take R := by
  unfold saidL
  rw [if_pos rfl, List.length_take, List.drop_take, List.take_take]
  congr 1
  omega
/- what next answers at a place. -/
def nxtAt (l : List UInt8) (at0 : Nat) : Value := nxtV (tokK (l.drop at0)) (tokN (l.drop at0)) (tokT (l.drop at0)) at0 (flt (tokK (l.drop at0)) (tokT (l.drop at0)))
theorem end_yes (ha : at0 < l.length) (hD : at0 + 1 + run txB (l.drop (at0 + 1)) = D) (h : D < l.length) (hq : l[D].toNat = 34) : endB (l.drop at0) = true := by
  unfold endB
  rw [List.drop_drop, List.drop_drop, show at0 + (1 + run txB (l.drop (at0 + 1))) = D by omega, drop_cons h, List.head?_cons]
  have : l[D] = 34 := UInt8.toNat.inj (by rw [hq]; rfl)
  rw [this]; rfl
theorem end_no (ha : at0 < l.length) (hD : at0 + 1 + run txB (l.drop (at0 + 1)) = D) (hq : ∀ h : D < l.length, l[D].toNat ≠ 34) : endB (l.drop at0) = false := by
  unfold endB
  rw [List.drop_drop, List.drop_drop, show at0 + (1 + run txB (l.drop (at0 + 1))) = D by omega]
  by_cases h : D < l.length
  · rw [drop_cons h, List.head?_cons]
    exact beq_eq_false_iff_ne.2 (fun e => hq h (by rw [Option.some.inj e]; rfl))
  · rw [List.drop_of_length_le (by omega)]; rfl
theorem tx_none (ha : at0 < l.length) (hs : smB l[at0] = false) (hd : dgB l[at0] = false) (h34 : l[at0].toNat = 34) (hD : at0 + 1 + run txB (l.drop (at0 + 1)) = D) (hq : ∀ h : D < l.length, l[D].toNat ≠ 34) :
    nxtAt l at0 = .tuple #[.agg #[.int .i64 0, .string ⟨#[]⟩, .int .i64 0], .int .i64 (at0 : Int), .int .i64 2] := by
  have hK : tokK (l.drop at0) = 0 := by rw [(tok_cons ha).1, hs, hd, h34, end_no ha hD hq]; rfl
  unfold nxtAt
  have hF : flt (tokK (l.drop at0)) (tokT (l.drop at0)) = 2 := by unfold flt; rw [if_pos hK]
  rw [hF]; exact nxt_err (F := 2) (by omega)
theorem tx_facts (ha : at0 < l.length) (hs : smB l[at0] = false) (hd : dgB l[at0] = false) (h34 : l[at0].toNat = 34) (hD : at0 + 1 + run txB (l.drop (at0 + 1)) = D) (h : D < l.length) (hq : l[D].toNat = 34) :
    tokK (l.drop at0) = 3 ∧ tokN (l.drop at0) = D + 1 - at0 ∧ tokT (l.drop at0) = (l.drop (at0 + 1)).take (D - (at0 + 1)) ∧ (tokT (l.drop at0)).length = D - (at0 + 1) := by
  have he := end_yes ha hD h hq
  have hK : tokK (l.drop at0) = 3 := by rw [(tok_cons ha).1, hs, hd, h34, he]; rfl
  have hN : tokN (l.drop at0) = 1 + (D - (at0 + 1)) + 1 := by
    rw [(tok_cons ha).2, hs, hd, h34, he]
    rw [if_neg (by simp), if_neg (by simp), if_pos rfl, if_pos rfl, List.drop_drop]
    omega
  have hT : tokT (l.drop at0) = (l.drop (at0 + 1)).take (D - (at0 + 1)) := by
    unfold tokT
    rw [hK, hN, saidL_three (by rw [List.length_drop]; omega), List.drop_drop]
  refine ⟨hK, by omega, hT, ?_⟩
  rw [hT, List.length_take, List.length_drop]; omega
theorem tx_long (ha : at0 < l.length) (hs : smB l[at0] = false) (hd : dgB l[at0] = false) (h34 : l[at0].toNat = 34) (hD : at0 + 1 + run txB (l.drop (at0 + 1)) = D) (h : D < l.length) (hq : l[D].toNat = 34) (h16 : 16 < D - (at0 + 1)) :
    nxtAt l at0 = .tuple #[.agg #[.int .i64 0, .string ⟨#[]⟩, .int .i64 0], .int .i64 (at0 : Int), .int .i64 13] := by
  obtain ⟨hK, hN, hT, hTl⟩ := tx_facts ha hs hd h34 hD h hq
  have hF : flt (tokK (l.drop at0)) (tokT (l.drop at0)) = 13 := by
    unfold flt; rw [hK, hTl]; simp [h16]
  unfold nxtAt
  rw [hF]; exact nxt_err (F := 13) (by omega)
theorem tx_ok (ha : at0 < l.length) (hs : smB l[at0] = false) (hd : dgB l[at0] = false) (h34 : l[at0].toNat = 34) (hD : at0 + 1 + run txB (l.drop (at0 + 1)) = D) (h : D < l.length) (hq : l[D].toNat = 34) (h16 : D - (at0 + 1) ≤ 16) :
    nxtAt l at0 = .tuple #[.agg #[.int .i64 3, .string ⟨((l.drop (at0 + 1)).take (D - (at0 + 1))).toArray⟩, .int .i64 (at0 : Int)], .int .i64 ((D : Int) + 1), .int .i64 0] := by
  obtain ⟨hK, hN, hT, hTl⟩ := tx_facts ha hs hd h34 hD h hq
  have hF : flt (tokK (l.drop at0)) (tokT (l.drop at0)) = 0 := by
    unfold flt; rw [hK, hTl]
    rw [if_neg (by omega), if_neg (by omega), if_neg (by omega)]
  unfold nxtAt
  rw [nxt_ok hF (show at0 + tokN (l.drop at0) = D + 1 by omega), hK, hT]
  rfl
end

set_option maxHeartbeats 3200000 in
set_option maxRecDepth 10000 in
theorem rtok_text (l : List UInt8) (at0 : Nat) (w : World) (hl : l.length ≤ 1000) (ha : at0 < l.length) (hs : smB l[at0] = false) (hd : dgB l[at0] = false) (h34 : l[at0].toNat = 34) :
    Calls Tryd.prog 23 #[.string ⟨l.toArray⟩, .int .i64 at0] w fun e w' => e = .returned (nxtAt l at0) ∧ Below w.heap.size w w' := by
  have hge : (⟨l.toArray⟩ : ByteArray)[at0]'(by simpa [ByteArray.size] using ha) = l[at0] := rfl
  have e34 : ((l[at0].toNat : Int) == 34) = true := by simp; omega
  generalize hD : at0 + 1 + run txB (l.drop (at0 + 1)) = D
  have VN := hide (tx_none ha hs hd h34 hD)
  have VL := hide (tx_long ha hs hd h34 hD)
  have VO := hide (tx_ok ha hs hd h34 hD)
  have e1 : (ByteArray.mk l.toArray).extract (at0 + 1) D = ByteArray.mk ((l.drop (at0 + 1)).take (D - (at0 + 1))).toArray := lext_eq _ _ _
  generalize (l.drop (at0 + 1)).take (D - (at0 + 1)) = t at *
  generalize nxtAt l at0 = V at *
  have HD0 := hide hD
  have HS := hide hs
  have HD := hide hd
  clear hs hd h34 hD
  go_enter Tryd.func23, Tryd.ntmps23
  go_wp2_with fail
  refine (rletter_any l[at0] _).mono ?_
  rintro e w1 ⟨rfl, rfl⟩
  rw [unhide HS]
  go_wp2_with fail
  refine (rdigit_any l[at0] _).mono ?_
  rintro e w1 ⟨rfl, rfl⟩
  rw [unhide HD]
  go_wp2_with fail
  go_loop [7] (fun i => ∃ k : Nat, at0 + 1 ≤ k ∧ k ≤ l.length ∧ i = .int .i64 k ∧ Hid (k + run txB (l.drop k) = D)) (fun i => l.length - (intOf i).toNat)
  case atStart => exact ⟨at0 + 1, by omega, by omega, by go_num, HD0⟩
  case round =>
    clear HD0
    obtain ⟨k, hk1, hk2, rfl, HR⟩ := hrel
    by_cases hlt : k < l.length
    · have hgk : (⟨l.toArray⟩ : ByteArray)[k]'(by simpa [ByteArray.size] using hlt) = l[k] := rfl
      have ekl : ((k : Int) == (l.length : Int)) = false := by simp; omega
      by_cases hq : l[k].toNat = 34
      · have hkD : k = D := by have := unhide HR; rw [run_no hlt (by unfold txB; rw [hq]; rfl)] at this; exact this
        subst hkD
        have eq : ((l[k].toNat : Int) != 34) = false := by simp; omega
        by_cases h16 : 16 < k - (at0 + 1)
        · have HV := hide (unhide VL hlt hq h16).symm
          have h16' : (16 : Int) < (k : Int) - at0 - 1 := by omega
          clear hq h16 HR
          go_wp2_with fail
          refine bodyPost_ret (v := .tuple #[.agg #[.int .i64 0, .string ⟨#[]⟩, .int .i64 0], .int .i64 (at0 : Int), .int .i64 13]) (by simp [results, Tryd.results23, go_sem]) rfl ⟨ret_val (unhide HV), ?_⟩
          exact below1 w _
        · have HV := hide (unhide VO hlt hq (by omega)).symm
          have h16' : (k : Int) - at0 - 1 ≤ 16 := by omega
          clear hq h16 HR
          go_wp2_with fail
          refine bodyPost_ret (v := .tuple #[.agg #[.int .i64 3, .string ⟨t.toArray⟩, .int .i64 (at0 : Int)], .int .i64 ((k : Int) + 1), .int .i64 0]) (by simp [results, Tryd.results23, go_sem]) rfl ⟨ret_val (unhide HV), ?_⟩
          exact below1 w _
      · have eq : ((l[k].toNat : Int) != 34) = true := by simp; omega
        by_cases h32 : 32 ≤ (l[k].toNat : Int)
        · by_cases h126 : (l[k].toNat : Int) ≤ 126
          · have HE := hide (show k + 1 + run txB (l.drop (k + 1)) = D by rw [← unhide HR]; exact (run_yes hlt (by rw [← tx_eq h32 h126]; exact eq)).symm)
            clear hq
            go_wp2_with fail
            go_round
            case rel => exact ⟨k + 1, by omega, by omega, by go_num, HE⟩
            case measure => simp [intOf]; omega
          · have hkD : k = D := by have := unhide HR; rw [run_no hlt (tx_no (Or.inr (by omega)))] at this; exact this
            subst hkD
            have HV := hide (unhide VN (fun _ => hq)).symm
            clear hq HR
            go_wp2_with fail
            refine bodyPost_ret (v := .tuple #[.agg #[.int .i64 0, .string ⟨#[]⟩, .int .i64 0], .int .i64 (at0 : Int), .int .i64 2]) (by simp [results, Tryd.results23, go_sem]) rfl ⟨ret_val (unhide HV), ?_⟩
            exact below1 w _
        · have hkD : k = D := by have := unhide HR; rw [run_no hlt (tx_no (Or.inl (by omega)))] at this; exact this
          subst hkD
          have HV := hide (unhide VN (fun _ => hq)).symm
          clear hq HR
          go_wp2_with fail
          refine bodyPost_ret (v := .tuple #[.agg #[.int .i64 0, .string ⟨#[]⟩, .int .i64 0], .int .i64 (at0 : Int), .int .i64 2]) (by simp [results, Tryd.results23, go_sem]) rfl ⟨ret_val (unhide HV), ?_⟩
          exact below1 w _
    · have hkD : k = D := by have := unhide HR; rw [run_end (by omega)] at this; exact this
      subst hkD
      have ekl : ((k : Int) == (l.length : Int)) = true := by simp; omega
      have HV := hide (unhide VN (fun h => absurd h hlt)).symm
      clear HR
      go_wp2_with fail
      refine bodyPost_ret (v := .tuple #[.agg #[.int .i64 0, .string ⟨#[]⟩, .int .i64 0], .int .i64 (at0 : Int), .int .i64 2]) (by simp [results, Tryd.results23, go_sem]) rfl ⟨ret_val (unhide HV), ?_⟩
      exact below1 w _

end Go.Proofs.YtdlfgnmcokdceabDoor

/- The contract of the document's next at a number. -/
namespace Go.Proofs.YtdlfgnmcokdceabDoor
open Go.RowKit
set_option linter.unusedVariables false

section
variable {l : List UInt8} {at0 D : Nat}
theorem num_head (hD : at0 + run dgB (l.drop at0) = D) : numN (l.drop at0) = if (l.drop D).head? = some 46 then (if run dgB (l.drop (D + 1)) = 0 then D - at0 else D - at0 + 1 + run dgB (l.drop (D + 1))) else D - at0 := by
  unfold numN
  rw [List.drop_drop, List.drop_drop, hD, show at0 + (run dgB (l.drop at0) + 1) = D + 1 by omega, show run dgB (l.drop at0) = D - at0 by omega]
theorem num_yes (hD : at0 + run dgB (l.drop at0) = D) (h : D + 1 < l.length) (h46 : l[D].toNat = 46) (hd : dgB l[D + 1] = true) : at0 + numN (l.drop at0) = D + 1 + run dgB (l.drop (D + 1)) := by
  have e : l[D] = 46 := UInt8.toNat.inj (by rw [h46]; rfl)
  have r : 1 ≤ run dgB (l.drop (D + 1)) := by rw [drop_cons h]; exact run_pos _ hd
  rw [num_head hD, drop_cons (show D < l.length by omega), e, List.head?_cons, if_pos rfl, if_neg (by omega)]
  omega
theorem num_no (hD : at0 + run dgB (l.drop at0) = D) (h : D + 1 < l.length → ∀ (h1 : D < l.length) (h2 : D + 1 < l.length), l[D].toNat = 46 → dgB l[D + 1] = false) : at0 + numN (l.drop at0) = D := by
  rw [num_head hD]
  by_cases h1 : D < l.length
  · rw [drop_cons h1]
    by_cases h46 : l[D] = 46
    · rw [h46, List.head?_cons, if_pos rfl]
      have hr : run dgB (l.drop (D + 1)) = 0 := by
        by_cases h2 : D + 1 < l.length
        · exact run_no h2 (h h2 h1 h2 (by rw [h46]; rfl))
        · exact run_end (by omega)
      rw [if_pos hr]; omega
    · rw [if_neg (by intro e; exact h46 (Option.some.inj e))]; omega
  · rw [List.drop_of_length_le (by omega), if_neg (by simp)]; omega
end

set_option maxHeartbeats 3200000 in
set_option maxRecDepth 10000 in
theorem rnum_any (l : List UInt8) (at0 : Nat) (w : World) (hl : l.length ≤ 1000) (ha : at0 < l.length) (hs : smB l[at0] = false) (hd : dgB l[at0] = true) :
    Calls Tryd.prog 23 #[.string ⟨l.toArray⟩, .int .i64 at0] w fun e w' => e = .returned (nxtV 2 (numN (l.drop at0)) ((l.drop at0).take (numN (l.drop at0))) at0 0) ∧ Below w.heap.size w w' := by
  have hge : (⟨l.toArray⟩ : ByteArray)[at0]'(by simpa [ByteArray.size] using ha) = l[at0] := rfl
  have h1 := numN_le (l.drop at0)
  rw [List.length_drop] at h1
  have h2 := run_le dgB (l.drop at0)
  rw [List.length_drop] at h2
  have e1 : (ByteArray.mk l.toArray).extract at0 (at0 + numN (l.drop at0)) = ByteArray.mk ((l.drop at0).take (numN (l.drop at0))).toArray := by rw [lext_eq, Nat.add_sub_cancel_left]
  generalize (l.drop at0).take (numN (l.drop at0)) = t at *
  generalize hV0 : nxtV 2 (numN (l.drop at0)) t at0 0 = V
  have hEl : at0 + numN (l.drop at0) ≤ l.length := by omega
  have hEk : at0 ≤ at0 + numN (l.drop at0) := by omega
  generalize hD : at0 + run dgB (l.drop at0) = D
  have hDl : D ≤ l.length := by omega
  have YES := hide (num_yes hD)
  have NO := hide (num_no hD)
  have HD0 := hide hD
  have HVV := hide (fun E (h : at0 + numN (l.drop at0) = E) => hV0.symm.trans (nxt_ok (F := 0) rfl h))
  clear hV0 hD h1 h2
  generalize at0 + numN (l.drop at0) = E at *
  have HS := hide hs
  have HD := hide hd
  have HV := hide (unhide HVV E rfl).symm
  clear hs hd HVV
  go_enter Tryd.func23, Tryd.ntmps23
  go_wp2_with fail
  refine (rletter_any l[at0] _).mono ?_
  rintro e w1 ⟨rfl, rfl⟩
  rw [unhide HS]
  go_wp2_with fail
  refine (rdigit_any l[at0] _).mono ?_
  rintro e w1 ⟨rfl, rfl⟩
  rw [unhide HD]
  go_wp2_with fail
  go_loop [7] (fun i => ∃ k : Nat, at0 ≤ k ∧ k ≤ l.length ∧ i = .int .i64 k ∧ Hid (k + run dgB (l.drop k) = D)) (fun i => l.length - (intOf i).toNat)
  case atStart => exact ⟨at0, by omega, by omega, rfl, HD0⟩
  case round =>
    clear HD0
    obtain ⟨k, hk1, hk2, rfl, HR⟩ := hrel
    by_cases hlt : k < l.length
    · have hgk : (⟨l.toArray⟩ : ByteArray)[k]'(by simpa [ByteArray.size] using hlt) = l[k] := rfl
      cases hdk : dgB l[k]
      · have HDK := hide hdk
        have hkD : k = D := by have := unhide HR; rw [run_no hlt hdk] at this; exact this
        subst hkD
        clear hdk HR
        go_wp2_with fail
        refine (rdigit_any l[k] _).mono ?_
        rintro e w1 ⟨rfl, rfl⟩
        rw [unhide HDK]
        by_cases hk3 : k + 1 < l.length
        · have hgk1 : (⟨l.toArray⟩ : ByteArray)[k + 1]'(by simpa [ByteArray.size] using hk3) = l[k + 1] := rfl
          by_cases h46 : l[k].toNat = 46
          · have e46 : ((l[k].toNat : Int) == 46) = true := by simp; omega
            cases hd1 : dgB l[k + 1]
            · have HD1 := hide hd1
              have hE : k = E := (unhide NO (fun _ _ _ _ => hd1)).symm
              subst hE
              clear hd1 h46
              go_wp2_with fail
              refine (rdigit_any l[k + 1] _).mono ?_
              rintro e w1 ⟨rfl, rfl⟩
              rw [unhide HD1]
              go_wp2_with fail
              refine bodyPost_ret (v := .tuple #[.agg #[.int .i64 2, .string ⟨t.toArray⟩, .int .i64 (at0 : Int)], .int .i64 (k : Int), .int .i64 0]) (by simp [results, Tryd.results23, go_sem]) rfl ⟨ret_val (unhide HV), ?_⟩
              exact below1 w _
            · have HD1 := hide hd1
              have HE0 := hide (unhide YES hk3 h46 hd1).symm
              clear hd1 h46
              go_wp2_with fail
              refine (rdigit_any l[k + 1] _).mono ?_
              rintro e w1 ⟨rfl, rfl⟩
              rw [unhide HD1]
              go_wp2_with fail
              go_loop [7] (fun i => ∃ j : Nat, at0 ≤ j ∧ j ≤ l.length ∧ i = .int .i64 j ∧ Hid (j + run dgB (l.drop j) = E)) (fun i => l.length - (intOf i).toNat)
              case atStart => exact ⟨k + 1, by omega, by omega, by go_num, HE0⟩
              case round =>
                clear HE0
                obtain ⟨j, hj1, hj2, rfl, HJ⟩ := hrel
                by_cases hjt : j < l.length
                · have hgj : (⟨l.toArray⟩ : ByteArray)[j]'(by simpa [ByteArray.size] using hjt) = l[j] := rfl
                  cases hdj : dgB l[j]
                  · have HDJ := hide hdj
                    have hjE : j = E := by have := unhide HJ; rw [run_no hjt hdj] at this; exact this
                    subst hjE
                    clear hdj HJ
                    go_wp2_with fail
                    refine (rdigit_any l[j] _).mono ?_
                    rintro e w1 ⟨rfl, rfl⟩
                    rw [unhide HDJ]
                    go_wp2_with fail
                    refine bodyPost_ret (v := .tuple #[.agg #[.int .i64 2, .string ⟨t.toArray⟩, .int .i64 (at0 : Int)], .int .i64 (j : Int), .int .i64 0]) (by simp [results, Tryd.results23, go_sem]) rfl ⟨ret_val (unhide HV), ?_⟩
                    exact below1 w _
                  · have HDJ := hide hdj
                    have HE := hide (show j + 1 + run dgB (l.drop (j + 1)) = E by rw [← unhide HJ]; exact (run_yes hjt hdj).symm)
                    clear hdj
                    go_wp2_with fail
                    refine (rdigit_any l[j] _).mono ?_
                    rintro e w1 ⟨rfl, rfl⟩
                    rw [unhide HDJ]
                    go_wp2_with fail
                    go_round
                    case rel => exact ⟨j + 1, by omega, by omega, by go_num, HE⟩
                    case measure => simp [intOf]; omega
                · have hjE : j = E := by have := unhide HJ; rw [run_end (by omega)] at this; exact this
                  subst hjE
                  clear HJ
                  go_wp2_with fail
                  refine bodyPost_ret (v := .tuple #[.agg #[.int .i64 2, .string ⟨t.toArray⟩, .int .i64 (at0 : Int)], .int .i64 (j : Int), .int .i64 0]) (by simp [results, Tryd.results23, go_sem]) rfl ⟨ret_val (unhide HV), ?_⟩
                  exact below1 w _
          · have e46 : ((l[k].toNat : Int) == 46) = false := by simp; omega
            have hE : k = E := (unhide NO (fun _ _ _ h => absurd h h46)).symm
            subst hE
            clear h46
            go_wp2_with fail
            refine bodyPost_ret (v := .tuple #[.agg #[.int .i64 2, .string ⟨t.toArray⟩, .int .i64 (at0 : Int)], .int .i64 (k : Int), .int .i64 0]) (by simp [results, Tryd.results23, go_sem]) rfl ⟨ret_val (unhide HV), ?_⟩
            exact below1 w _
        · have hE : k = E := (unhide NO (fun h => absurd h hk3)).symm
          subst hE
          go_wp2_with fail
          refine bodyPost_ret (v := .tuple #[.agg #[.int .i64 2, .string ⟨t.toArray⟩, .int .i64 (at0 : Int)], .int .i64 (k : Int), .int .i64 0]) (by simp [results, Tryd.results23, go_sem]) rfl ⟨ret_val (unhide HV), ?_⟩
          exact below1 w _
      · have HDK := hide hdk
        have HE := hide (show k + 1 + run dgB (l.drop (k + 1)) = D by rw [← unhide HR]; exact (run_yes hlt hdk).symm)
        clear hdk
        go_wp2_with fail
        refine (rdigit_any l[k] _).mono ?_
        rintro e w1 ⟨rfl, rfl⟩
        rw [unhide HDK]
        go_wp2_with fail
        go_round
        case rel => exact ⟨k + 1, by omega, by omega, by go_num, HE⟩
        case measure => simp [intOf]; omega
    · have hkD : k = D := by have := unhide HR; rw [run_end (by omega)] at this; exact this
      subst hkD
      have hE : k = E := (unhide NO (fun h => absurd h (by omega))).symm
      subst hE
      clear HR
      go_wp2_with fail
      refine bodyPost_ret (v := .tuple #[.agg #[.int .i64 2, .string ⟨t.toArray⟩, .int .i64 (at0 : Int)], .int .i64 (k : Int), .int .i64 0]) (by simp [results, Tryd.results23, go_sem]) rfl ⟨ret_val (unhide HV), ?_⟩
      exact below1 w _

end Go.Proofs.YtdlfgnmcokdceabDoor

/- The contract of the document's next at a sign. -/
namespace Go.Proofs.YtdlfgnmcokdceabDoor
open Go.RowKit
set_option linter.unusedVariables false

section
variable {l : List UInt8} {at0 : Nat}
theorem sg_facts (ha : at0 < l.length) (hs : smB l[at0] = false) (hd : dgB l[at0] = false) (h34 : l[at0].toNat ≠ 34) :
    (sgn sgs (l.drop at0) = 0 → nxtAt l at0 = .tuple #[.agg #[.int .i64 0, .string ⟨#[]⟩, .int .i64 0], .int .i64 (at0 : Int), .int .i64 2]) ∧
    (∀ g : List UInt8, 1 ≤ g.length → preB g (l.drop at0) = true → sgn sgs (l.drop at0) = g.length → nxtAt l at0 = .tuple #[.agg #[.int .i64 4, .string ⟨g.toArray⟩, .int .i64 (at0 : Int)], .int .i64 ((at0 : Int) + g.length), .int .i64 0]) := by
  obtain ⟨tk, tn⟩ := tok_cons ha
  rw [hs, hd, if_neg (by simp), if_neg (by simp), if_neg h34] at tk tn
  constructor
  · intro h0
    rw [if_pos h0] at tk
    have hF : flt (tokK (l.drop at0)) (tokT (l.drop at0)) = 2 := by unfold flt; rw [if_pos tk]
    unfold nxtAt
    rw [hF]; exact nxt_err (F := 2) (by omega)
  · intro g hg hp hl
    rw [if_neg (by omega)] at tk
    rw [hl] at tn
    have hT : tokT (l.drop at0) = g := by
      unfold tokT saidL
      rw [tk, tn, if_neg (by omega)]
      unfold preB at hp
      simp only [Bool.and_eq_true, decide_eq_true_eq] at hp
      exact eq_of_beq hp.2
    have hF : flt (tokK (l.drop at0)) (tokT (l.drop at0)) = 0 := by
      unfold flt
      rw [tk, if_neg (by omega), if_neg (by omega), if_neg (by omega)]
    unfold nxtAt
    rw [nxt_ok hF (show at0 + tokN (l.drop at0) = at0 + g.length by omega), tk, hT]
    simp
end
theorem row_sgs (w : World) : ∀ k, k < 16 → (w.alloc (.cells #[.string ⟨#[60, 61]⟩, .string ⟨#[62, 61]⟩, .string ⟨#[33, 61]⟩, .string ⟨#[46, 46]⟩, .string ⟨#[60]⟩, .string ⟨#[62]⟩, .string ⟨#[61]⟩, .string ⟨#[43]⟩, .string ⟨#[45]⟩, .string ⟨#[42]⟩, .string ⟨#[47]⟩, .string ⟨#[40]⟩, .string ⟨#[41]⟩, .string ⟨#[91]⟩, .string ⟨#[93]⟩, .string ⟨#[44]⟩] 9)).cell? ⟨w.heap.size, k, none⟩ = some (.string ⟨(sgs.getD k []).toArray⟩) := by
  intro k hk
  have h := row_strs w sgs 9 k
  rw [List.getElem?_eq_getElem (show k < sgs.length from hk)] at h
  have e : sgs.getD k [] = sgs[k]'(show k < sgs.length from hk) := by simp [show k < sgs.length from hk]
  rw [e]
  exact h

set_option maxHeartbeats 3200000 in
set_option maxRecDepth 10000 in
theorem rsign_any (l : List UInt8) (at0 : Nat) (w : World) (hl : l.length ≤ 1000) (ha : at0 < l.length) (hs : smB l[at0] = false) (hd : dgB l[at0] = false) (h34 : l[at0].toNat ≠ 34) :
    Calls Tryd.prog 23 #[.string ⟨l.toArray⟩, .int .i64 at0] w fun e w' => e = .returned (nxtAt l at0) ∧ Below w.heap.size w w' := by
  have hge : (⟨l.toArray⟩ : ByteArray)[at0]'(by simpa [ByteArray.size] using ha) = l[at0] := rfl
  have e34 : ((l[at0].toNat : Int) == 34) = false := by simp; omega
  obtain ⟨vn, vy⟩ := sg_facts ha hs hd h34
  have VN := hide vn
  have VY := hide vy
  have HS := hide hs
  have HD := hide hd
  have hrl : (l.drop at0).length = l.length - at0 := List.length_drop
  have EX := hide (fun n => lext_eq l at0 (at0 + n))
  clear vn vy hs hd h34
  generalize nxtAt l at0 = V at *
  generalize l.drop at0 = r at *
  have row0 := row_sgs (w.alloc (.cells #[.int .i64 0, .string ⟨#[]⟩, .int .i64 0] 47))
  rw [show (w.alloc (.cells #[.int .i64 0, .string ⟨#[]⟩, .int .i64 0] 47)).heap.size = w.heap.size + 1 by simp] at row0
  have ROW := hide row0
  clear row0
  have d0 : ((w.alloc (.cells #[.int .i64 0, .string ⟨#[]⟩, .int .i64 0] 47)).alloc (.cells #[.string ⟨#[60, 61]⟩, .string ⟨#[62, 61]⟩, .string ⟨#[33, 61]⟩, .string ⟨#[46, 46]⟩, .string ⟨#[60]⟩, .string ⟨#[62]⟩, .string ⟨#[61]⟩, .string ⟨#[43]⟩, .string ⟨#[45]⟩, .string ⟨#[42]⟩, .string ⟨#[47]⟩, .string ⟨#[40]⟩, .string ⟨#[41]⟩, .string ⟨#[91]⟩, .string ⟨#[93]⟩, .string ⟨#[44]⟩] 9)).cell? ⟨w.heap.size, 0, none⟩ = some (.int .i64 0) := by go_simp
  have d1 : ((w.alloc (.cells #[.int .i64 0, .string ⟨#[]⟩, .int .i64 0] 47)).alloc (.cells #[.string ⟨#[60, 61]⟩, .string ⟨#[62, 61]⟩, .string ⟨#[33, 61]⟩, .string ⟨#[46, 46]⟩, .string ⟨#[60]⟩, .string ⟨#[62]⟩, .string ⟨#[61]⟩, .string ⟨#[43]⟩, .string ⟨#[45]⟩, .string ⟨#[42]⟩, .string ⟨#[47]⟩, .string ⟨#[40]⟩, .string ⟨#[41]⟩, .string ⟨#[91]⟩, .string ⟨#[93]⟩, .string ⟨#[44]⟩] 9)).cell? ⟨w.heap.size, 1, none⟩ = some (.string ⟨#[]⟩) := by go_simp
  have d2 : ((w.alloc (.cells #[.int .i64 0, .string ⟨#[]⟩, .int .i64 0] 47)).alloc (.cells #[.string ⟨#[60, 61]⟩, .string ⟨#[62, 61]⟩, .string ⟨#[33, 61]⟩, .string ⟨#[46, 46]⟩, .string ⟨#[60]⟩, .string ⟨#[62]⟩, .string ⟨#[61]⟩, .string ⟨#[43]⟩, .string ⟨#[45]⟩, .string ⟨#[42]⟩, .string ⟨#[47]⟩, .string ⟨#[40]⟩, .string ⟨#[41]⟩, .string ⟨#[91]⟩, .string ⟨#[93]⟩, .string ⟨#[44]⟩] 9)).cell? ⟨w.heap.size, 2, none⟩ = some (.int .i64 0) := by go_simp
  have f0 : ((w.alloc (.cells #[.int .i64 0, .string ⟨#[]⟩, .int .i64 0] 47)).alloc (.cells #[.string ⟨#[60, 61]⟩, .string ⟨#[62, 61]⟩, .string ⟨#[33, 61]⟩, .string ⟨#[46, 46]⟩, .string ⟨#[60]⟩, .string ⟨#[62]⟩, .string ⟨#[61]⟩, .string ⟨#[43]⟩, .string ⟨#[45]⟩, .string ⟨#[42]⟩, .string ⟨#[47]⟩, .string ⟨#[40]⟩, .string ⟨#[41]⟩, .string ⟨#[91]⟩, .string ⟨#[93]⟩, .string ⟨#[44]⟩] 9)).frozen? ⟨w.heap.size, 0, none⟩ = false := by go_simp
  have f1 : ((w.alloc (.cells #[.int .i64 0, .string ⟨#[]⟩, .int .i64 0] 47)).alloc (.cells #[.string ⟨#[60, 61]⟩, .string ⟨#[62, 61]⟩, .string ⟨#[33, 61]⟩, .string ⟨#[46, 46]⟩, .string ⟨#[60]⟩, .string ⟨#[62]⟩, .string ⟨#[61]⟩, .string ⟨#[43]⟩, .string ⟨#[45]⟩, .string ⟨#[42]⟩, .string ⟨#[47]⟩, .string ⟨#[40]⟩, .string ⟨#[41]⟩, .string ⟨#[91]⟩, .string ⟨#[93]⟩, .string ⟨#[44]⟩] 9)).frozen? ⟨w.heap.size, 1, none⟩ = false := by go_simp
  have f2 : ((w.alloc (.cells #[.int .i64 0, .string ⟨#[]⟩, .int .i64 0] 47)).alloc (.cells #[.string ⟨#[60, 61]⟩, .string ⟨#[62, 61]⟩, .string ⟨#[33, 61]⟩, .string ⟨#[46, 46]⟩, .string ⟨#[60]⟩, .string ⟨#[62]⟩, .string ⟨#[61]⟩, .string ⟨#[43]⟩, .string ⟨#[45]⟩, .string ⟨#[42]⟩, .string ⟨#[47]⟩, .string ⟨#[40]⟩, .string ⟨#[41]⟩, .string ⟨#[91]⟩, .string ⟨#[93]⟩, .string ⟨#[44]⟩] 9)).frozen? ⟨w.heap.size, 2, none⟩ = false := by go_simp
  have BEL := hide (below2 w (.cells #[.int .i64 0, .string ⟨#[]⟩, .int .i64 0] 47) (.cells #[.string ⟨#[60, 61]⟩, .string ⟨#[62, 61]⟩, .string ⟨#[33, 61]⟩, .string ⟨#[46, 46]⟩, .string ⟨#[60]⟩, .string ⟨#[62]⟩, .string ⟨#[61]⟩, .string ⟨#[43]⟩, .string ⟨#[45]⟩, .string ⟨#[42]⟩, .string ⟨#[47]⟩, .string ⟨#[40]⟩, .string ⟨#[41]⟩, .string ⟨#[91]⟩, .string ⟨#[93]⟩, .string ⟨#[44]⟩] 9))
  go_enter Tryd.func23, Tryd.ntmps23
  go_wp2_with fail
  refine (rletter_any l[at0] _).mono ?_
  rintro e w1 ⟨rfl, rfl⟩
  rw [unhide HS]
  go_wp2_with fail
  refine (rdigit_any l[at0] _).mono ?_
  rintro e w1 ⟨rfl, rfl⟩
  rw [unhide HD]
  go_wp2_with fail
  generalize (w.alloc (.cells #[.int .i64 0, .string ⟨#[]⟩, .int .i64 0] 47)).alloc (.cells #[.string ⟨#[60, 61]⟩, .string ⟨#[62, 61]⟩, .string ⟨#[33, 61]⟩, .string ⟨#[46, 46]⟩, .string ⟨#[60]⟩, .string ⟨#[62]⟩, .string ⟨#[61]⟩, .string ⟨#[43]⟩, .string ⟨#[45]⟩, .string ⟨#[42]⟩, .string ⟨#[47]⟩, .string ⟨#[40]⟩, .string ⟨#[41]⟩, .string ⟨#[91]⟩, .string ⟨#[93]⟩, .string ⟨#[44]⟩] 9) = W at *
  go_loopw [9] (fun i wr => ∃ (k n : Nat), k ≤ 16 ∧ i = .int .i64 k ∧ wr = W.drewN n ∧ Hid (sgn (sgs.drop k) r = sgn sgs r)) (fun i _ => 16 - (intOf i).toNat)
  case atStart => exact ⟨0, 0, by omega, rfl, rfl, hide rfl⟩
  case round =>
    obtain ⟨k, n, hk, rfl, rfl, HR⟩ := hrel
    by_cases hlt : k < 16
    · have row := unhide ROW k hlt
      have ST := hide (sgn_step r hlt)
      have hg := sgs_len hlt
      generalize sgs.getD k [] = g at *
      by_cases hle : (g.length : Int) ≤ (l.length : Int) - at0
      · have e1 : (ByteArray.mk l.toArray).extract at0 (at0 + g.length) = ByteArray.mk (r.take g.length).toArray := by rw [unhide EX, Nat.add_sub_cancel_left]
        have hp : preB g r = (r.take g.length == g) := by unfold preB; rw [decide_eq_true (by omega)]; rfl
        cases hq : (r.take g.length == g)
        · have HE := hide (show sgn (sgs.drop (k + 1)) r = sgn sgs r by rw [← unhide HR, unhide ST, hp, hq]; rfl)
          clear hp
          go_wp2_with fail
          go_quiet (fail)
          go_wp2_with fail
          go_roundw
          case rel => exact ⟨k + 1, _, by omega, by go_num, (by first | rfl | exact World.drewN_drewN _ _ _), HE⟩
          case measure => simp [intOf]; omega
        · have HV := hide (unhide VY g hg.1 (hp.trans hq) (by rw [← unhide HR, unhide ST, hp, hq]; rfl)).symm
          clear hp
          go_wp2_with fail
          go_quiet (fail)
          go_wp2_with fail
          go_region
          go_wp2_with fail
          refine bodyPost_ret (v := .tuple #[.agg #[.int .i64 4, .string ⟨g.toArray⟩, .int .i64 (at0 : Int)], .int .i64 ((at0 : Int) + g.length), .int .i64 0]) (by simp [results, Tryd.results23, go_sem, d0, d1, d2]) rfl ⟨ret_val (unhide HV), ?_⟩
          exact below4 (below_drewN (unhide BEL) _) (Nat.le_refl _)
      · have hd : decide ((g.length : Int) ≤ (l.length : Int) - at0) = false := decide_eq_false hle
        have HE := hide (show sgn (sgs.drop (k + 1)) r = sgn sgs r by
          rw [← unhide HR, unhide ST]
          have : preB g r = false := by unfold preB; rw [decide_eq_false (by omega)]; rfl
          rw [this]; rfl)
        clear hle
        go_wp2_with fail
        go_quiet (fail)
        go_wp2_with fail
        go_roundw
        case rel => exact ⟨k + 1, _, by omega, by go_num, (by first | rfl | exact World.drewN_drewN _ _ _), HE⟩
        case measure => simp [intOf]; omega
    · have HV := hide (unhide VN (by rw [← unhide HR, show k = 16 by omega]; rfl)).symm
      go_wp2_with fail
      refine bodyPost_ret (v := .tuple #[.agg #[.int .i64 0, .string ⟨#[]⟩, .int .i64 0], .int .i64 (at0 : Int), .int .i64 2]) (by simp [results, Tryd.results23, go_sem, d0, d1, d2]) rfl ⟨ret_val (unhide HV), ?_⟩
      exact below4 (below_drewN (unhide BEL) _) (Nat.le_refl _)

theorem rnext_any (l : List UInt8) (at0 : Nat) (w : World) (hl : l.length ≤ 1000) (ha : at0 < l.length) :
    Calls Tryd.prog 23 #[.string ⟨l.toArray⟩, .int .i64 at0] w fun e w' => e = .returned (nxtAt l at0) ∧ Below w.heap.size w w' := by
  obtain ⟨tk, tn⟩ := tok_cons ha
  cases hs : smB l[at0]
  · cases hd : dgB l[at0]
    · by_cases h34 : l[at0].toNat = 34
      · exact rtok_text l at0 w hl ha hs hd h34
      · exact rsign_any l at0 w hl ha hs hd h34
    · rw [hs, hd, if_neg (by simp), if_pos rfl] at tk tn
      have h := rnum_any l at0 w hl ha hs hd
      have e : nxtAt l at0 = nxtV 2 (numN (l.drop at0)) ((l.drop at0).take (numN (l.drop at0))) at0 0 := by
        unfold nxtAt tokT
        rw [tk, tn]
        rfl
      rw [e]; exact h
  · rw [hs, if_pos rfl] at tk tn
    have h := rname_any l at0 w hl ha hs
    have e : nxtAt l at0 = nxtV 1 (run nmB (l.drop at0)) ((l.drop at0).take (run nmB (l.drop at0))) at0 (flt 1 ((l.drop at0).take (run nmB (l.drop at0)))) := by
      unfold nxtAt tokT
      rw [tk, tn]
      rfl
    rw [e]; exact h
end Go.Proofs.YtdlfgnmcokdceabDoor

/- The contract of the document's Lex: the same tokens, in new memory. -/
namespace Go.Proofs.YtdlfgnmcokdceabDoor
open Go.RowKit
set_option linter.unusedVariables false

set_option maxHeartbeats 3200000 in
theorem rlex_long (l : List UInt8) (w : World) (hl : l.length ≤ 1000) (h2 : 200 < l.length) :
    Calls Tryd.prog 14 #[.string ⟨l.toArray⟩] w fun e w' => LexRes w.heap.size (lexT l) e w' ∧ w' = w := by
  have HR := hide (show lexT l = ([], 0, 13) by unfold lexT; rw [if_pos h2])
  generalize lexT l = R at *
  go_enter Tryd.func14, Tryd.ntmps14
  go_wp2_with fail
  go_ret3
  rw [unhide HR]
  exact ⟨⟨_, rfl, World.ownsRow_nil _ _ _ _⟩, rfl⟩

theorem tokE_flt {r : List UInt8} {n : Nat} : tokE r n = (if flt (tokK r) (tokT r) = 0 ∧ 60 ≤ n then 13 else flt (tokK r) (tokT r)) := rfl
theorem nxtAt_ok {l : List UInt8} {k : Nat} (h : flt (tokK (l.drop k)) (tokT (l.drop k)) = 0) : nxtAt l k = .tuple #[.agg #[.int .i64 ((tokK (l.drop k) : Nat) : Int), .string ⟨(tokT (l.drop k)).toArray⟩, .int .i64 (k : Int)], .int .i64 ((k + tokN (l.drop k) : Nat) : Int), .int .i64 0] := nxt_ok h rfl
theorem nxtAt_err {l : List UInt8} {k : Nat} (h : flt (tokK (l.drop k)) (tokT (l.drop k)) ≠ 0) : nxtAt l k = .tuple #[.agg #[.int .i64 0, .string ⟨#[]⟩, .int .i64 0], .int .i64 (k : Int), .int .i64 ((flt (tokK (l.drop k)) (tokT (l.drop k)) : Nat) : Int)] := nxt_err h

set_option maxHeartbeats 3200000 in
theorem rlex_any (l : List UInt8) (w : World) (h2 : l.length ≤ 200) :
    Calls Tryd.prog 14 #[.string ⟨l.toArray⟩] w fun e w' => LexRes w.heap.size (lexT l) e w' ∧ Below w.heap.size w w' := by
  have hl : l.length ≤ 1000 := by omega
  have HR0 := hide (lexT_glue h2).symm
  generalize lexT l = R at *
  generalize hB : w.heap.size = B at *
  have HB := hide hB
  clear hB
  go_enter Tryd.func14, Tryd.ntmps14
  go_wp2_with fail
  go_loopw [5, 6] (fun v i wr => ∃ (acc : List Tk) (k : Nat), k ≤ l.length ∧ i = .int .i64 k ∧ acc.length ≤ 60 ∧ Below B w wr ∧ Hid (wr.ownsRow B 47 3 v acc.length (tksC acc)) ∧ Hid (glue acc (lexS (l.drop k) 0 k acc.length) = R)) (fun _ i _ => l.length - (intOf i).toNat)
  case atStart => exact ⟨[], 0, Nat.zero_le _, rfl, by simp, Below.refl _ _, hide (World.ownsRow_nil _ _ _ _), HR0⟩
  case round =>
    clear HR0
    obtain ⟨acc, k, hk, rfl, hacc, bel, OWN, HR⟩ := hrel
    have zB : B ≤ wr.heap.size := by have := bel.size; rw [unhide HB] at this; exact this
    by_cases hlt : k < l.length
    · have hgk : (⟨l.toArray⟩ : ByteArray)[k]'(by simpa [ByteArray.size] using hlt) = l[k] := rfl
      have HBL := hide (bl_eq l[k])
      cases hb : blB l[k]
      · have ebl : ((l[k].toNat : Int) == 32) = false := by rw [unhide HBL, hb]
        have T := hide (fun w => rnext_any l k w hl hlt)
        have tb := tokN_bd (l.drop k)
        rw [List.length_drop] at tb
        obtain ⟨a, cap, rfl⟩ := owns_form (unhide OWN)
        have ER := hide (fun he => lex_err (n := acc.length) hlt hb he)
        have OK := hide (fun he => lex_tok (n := acc.length) hlt hb he)
        have KD := hide (fun he => tokE_kind (r := l.drop k) (n := acc.length) he)
        have EF := hide (tokE_flt (r := l.drop k) (n := acc.length))
        clear hb
        by_cases hf : flt (tokK (l.drop k)) (tokT (l.drop k)) = 0
        · rw [nxtAt_ok hf] at T
          rw [hf] at EF
          have hEl : k + tokN (l.drop k) ≤ l.length := by omega
          have hE1 : tokK (l.drop k) ≠ 0 → k < k + tokN (l.drop k) := by omega
          clear hf tb
          generalize tokK (l.drop k) = K at *
          generalize tokT (l.drop k) = tT at *
          generalize k + tokN (l.drop k) = E at *
          go_wp2_with fail
          refine (unhide T _).mono ?_
          rintro e w2 ⟨rfl, b2⟩
          have own2 := hide (owns_below (unhide OWN) b2)
          have bel2 : Below B w w2 := bel.trans (b2.mono zB)
          have zB2 : B ≤ w2.heap.size := by have := bel2.size; rw [unhide HB] at this; exact this
          clear b2 OWN bel
          by_cases h60 : 60 ≤ acc.length
          · have hE : tokE (l.drop k) acc.length = 13 := by rw [unhide EF, if_pos ⟨by first | rfl | trivial, h60⟩]
            have HE := hide (show R = ([], k, 13) by rw [← unhide HR, unhide ER (by omega), hE, glue_err _ _ _ (by omega)])
            clear hE
            go_wp2_with fail
            go_ret3
            exact ⟨lexRes_mk (unhide HE) (World.ownsRow_nil _ _ _ _), bel2.alloc zB2 _⟩
          · have hE : tokE (l.drop k) acc.length = 0 := by rw [unhide EF, if_neg (fun h => h60 h.2)]
            have hE2 := hE1 (unhide KD hE)
            have HE := hide (show glue (acc ++ [(K, tT, k)]) (lexS (l.drop E) 0 E (acc ++ [(K, tT, k)]).length) = R by
              rw [List.length_append, ← glue_cons, ← unhide HR, unhide OK hE]; rfl)
            clear hE
            go_wp2_with (at_builtin; go_must (refine wpList_tok rfl _ _ rfl B _ acc rfl (((unhide own2).alloc _).alloc _) (w2.heap.size + 1) (K, tT, k) rfl ⟨by go_simp, by go_simp, by go_simp⟩ (by omega) (by simp; omega) ?_); intro v' w3 own3 gr3 bel3)
            have bel3' : Below B w w3 := bel3 _ ((bel2.alloc zB2 _).alloc (by simp; omega) _)
            have OWN3 := hide own3
            clear bel3 gr3 bel2 own2 own3
            go_roundw
            case rel => exact ⟨acc ++ [(K, tT, k)], E, hEl, rfl, by simp; omega, bel3', OWN3, HE⟩
            case measure => simp [intOf]; omega
        · rw [nxtAt_err hf] at T
          have hE : tokE (l.drop k) acc.length = flt (tokK (l.drop k)) (tokT (l.drop k)) := by rw [unhide EF, if_neg (fun h => hf h.1)]
          have HE := hide (show R = ([], k, flt (tokK (l.drop k)) (tokT (l.drop k))) by rw [← unhide HR, unhide ER (by rw [hE]; exact hf), hE, glue_err _ _ _ hf])
          generalize flt (tokK (l.drop k)) (tokT (l.drop k)) = F0 at *
          have e0 : ((F0 : Int) != 0) = true := by simp; omega
          have e0' : ((F0 : Int) == 0) = false := by simp; omega
          clear hE hf tb
          by_cases h60 : 60 ≤ acc.length
          all_goals
            go_wp2_with fail
            refine (unhide T _).mono ?_
            rintro e w2 ⟨rfl, b2⟩
            have bel2 : Below B w w2 := bel.trans (b2.mono zB)
            have zB2 : B ≤ w2.heap.size := by have := bel2.size; rw [unhide HB] at this; exact this
            clear b2 OWN bel
            go_wp2_with fail
            go_ret3
            exact ⟨lexRes_mk (unhide HE) (World.ownsRow_nil _ _ _ _), bel2.alloc zB2 _⟩
      · have ebl : ((l[k].toNat : Int) == 32) = true := by rw [unhide HBL, hb]
        have HE := hide (show glue acc (lexS (l.drop (k + 1)) 0 (k + 1) acc.length) = R by rw [← unhide HR, lex_blank hlt hb])
        clear hb
        go_wp2_with fail
        go_roundw
        case rel => exact ⟨acc, k + 1, by omega, by go_num, hacc, bel, OWN, HE⟩
        case measure => simp [intOf]; omega
    · have HE := hide (show R = (acc, l.length, 0) by rw [← unhide HR, lex_end (by omega), glue_ok, show k = l.length by omega])
      go_wp2_with fail
      go_ret3
      exact ⟨lexRes_mk (unhide HE) (unhide OWN), bel⟩
end Go.Proofs.YtdlfgnmcokdceabDoor

/- Both ways of lexing tell the same tokens, of any text; what a token may be. -/
namespace Go.Proofs.YtdlfgnmcokdceabDoor
open Go.RowKit
set_option linter.unusedVariables false

theorem lexS_len (r : List UInt8) : ∀ k pos n, n ≤ 60 → (lexS r k pos n).1.length + n ≤ 60 := by
  induction r with
  | nil => intro k pos n h; simp only [lexS, List.length_nil]; omega
  | cons c r ih =>
    intro k pos n h
    cases k with
    | succ k => rw [lexS]; exact ih k _ _ h
    | zero =>
      rw [lexS]
      split
      · exact ih 0 _ _ h
      · split
        · have hn := tokE_n (by assumption : tokE (c :: r) n = 0)
          have h1 := ih (tokN (c :: r) - 1) (pos + 1) (n + 1) (by omega)
          unfold consR
          split
          · simp only [List.length_cons]; omega
          · simp only [List.length_nil]; omega
        · simp only [List.length_nil]; omega
theorem lexT_len (l : List UInt8) : (lexT l).1.length ≤ 60 := by
  unfold lexT
  split
  · exact Nat.zero_le _
  · have := lexS_len l 0 0 0 (by omega); omega
theorem bytes_of (s : ByteArray) : ∃ l : List UInt8, s = ⟨l.toArray⟩ := ⟨s.data.toList, by simp⟩
theorem lex_all (l : List UInt8) (w : World) (hl : l.length ≤ 1000) (sig : Sig w) :
    Calls Tryd.prog 12 #[.string ⟨l.toArray⟩] w fun e w' => LexRes w.heap.size (lexT l) e w' ∧ Below w.heap.size w w' := by
  by_cases h : 200 < l.length
  · exact (lex_long l w hl h).mono fun e w' ⟨h1, h2⟩ => ⟨h1, h2 ▸ Below.refl _ _⟩
  · exact lex_any l w (by omega) sig
theorem rlex_all (l : List UInt8) (w : World) (hl : l.length ≤ 1000) :
    Calls Tryd.prog 14 #[.string ⟨l.toArray⟩] w fun e w' => LexRes w.heap.size (lexT l) e w' ∧ Below w.heap.size w w' := by
  by_cases h : 200 < l.length
  · exact (rlex_long l w hl h).mono fun e w' ⟨h1, h2⟩ => ⟨h1, h2 ▸ Below.refl _ _⟩
  · exact rlex_any l w (by omega)

end Go.Proofs.YtdlfgnmcokdceabDoor

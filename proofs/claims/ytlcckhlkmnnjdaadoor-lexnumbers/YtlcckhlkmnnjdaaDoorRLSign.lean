/- The contract of the document's next at a sign. -/
import Derived.Test.YtlcckhlkmnnjdaaDoorRLText
import Derived.Test.YtlcckhlkmnnjdaaDoorRLNum
import Derived.BigRegion
namespace Go.Proofs.YtlcckhlkmnnjdaaDoor
open Go.RowKit
set_option linter.unusedVariables false

section
variable {l : List UInt8} {at0 : Nat}
theorem sg_facts (ha : at0 < l.length) (hs : smB l[at0] = false) (hd : dgB l[at0] = false) (h34 : l[at0].toNat ≠ 34) :
    (sgn sgs (l.drop at0) = 0 → nxtAt l at0 = .tuple #[.agg #[.int .i64 0, .string ⟨#[]⟩, .int .i64 0], .int .i64 (at0 : Int), .int .i64 2]) ∧
    (∀ g : List UInt8, 1 ≤ g.length → preB g (l.drop at0) = true → sgn sgs (l.drop at0) = g.length → nxtAt l at0 = .tuple #[.agg #[.int .i64 4, .string ⟨g.toArray⟩, .int .i64 (at0 : Int)], .int .i64 ((at0 : Int) + g.length), .int .i64 0]) := by
  obtain ⟨tk, tn⟩ := tok_cons ha
  rw [hs, hd, if_neg (by simp), if_neg (by simp), if_neg h34] at tk tn
  constructor
  · intro h0
    rw [if_pos h0] at tk
    have hF : flt (tokK (l.drop at0)) (tokT (l.drop at0)) = 2 := by unfold flt; rw [if_pos tk]
    unfold nxtAt
    rw [hF]; exact nxt_err (F := 2) (by omega)
  · intro g hg hp hl
    rw [if_neg (by omega)] at tk
    rw [hl] at tn
    have hT : tokT (l.drop at0) = g := by
      unfold tokT saidL
      rw [tk, tn, if_neg (by omega)]
      unfold preB at hp
      simp only [Bool.and_eq_true, decide_eq_true_eq] at hp
      exact eq_of_beq hp.2
    have hF : flt (tokK (l.drop at0)) (tokT (l.drop at0)) = 0 := by
      unfold flt
      rw [tk, if_neg (by omega), if_neg (by omega), if_neg (by omega)]
    unfold nxtAt
    rw [nxt_ok hF (show at0 + tokN (l.drop at0) = at0 + g.length by omega), tk, hT]
    simp
end
theorem row_sgs (w : World) : ∀ k, k < 16 → (w.alloc (.cells #[.string ⟨#[60, 61]⟩, .string ⟨#[62, 61]⟩, .string ⟨#[33, 61]⟩, .string ⟨#[46, 46]⟩, .string ⟨#[60]⟩, .string ⟨#[62]⟩, .string ⟨#[61]⟩, .string ⟨#[43]⟩, .string ⟨#[45]⟩, .string ⟨#[42]⟩, .string ⟨#[47]⟩, .string ⟨#[40]⟩, .string ⟨#[41]⟩, .string ⟨#[91]⟩, .string ⟨#[93]⟩, .string ⟨#[44]⟩] 9)).cell? ⟨w.heap.size, k, none⟩ = some (.string ⟨(sgs.getD k []).toArray⟩) := by
  intro k hk
  have h := row_strs w sgs 9 k
  rw [List.getElem?_eq_getElem (show k < sgs.length from hk)] at h
  have e : sgs.getD k [] = sgs[k]'(show k < sgs.length from hk) := by simp [show k < sgs.length from hk]
  rw [e]
  exact h

set_option maxHeartbeats 3200000 in
set_option maxRecDepth 10000 in
theorem rsign_any (l : List UInt8) (at0 : Nat) (w : World) (hl : l.length ≤ 1000) (ha : at0 < l.length) (hs : smB l[at0] = false) (hd : dgB l[at0] = false) (h34 : l[at0].toNat ≠ 34) :
    Calls Tryd.prog 21 #[.string ⟨l.toArray⟩, .int .i64 at0] w fun e w' => e = .returned (nxtAt l at0) ∧ Below w.heap.size w w' := by
  have hge : (⟨l.toArray⟩ : ByteArray)[at0]'(by simpa [ByteArray.size] using ha) = l[at0] := rfl
  have e34 : ((l[at0].toNat : Int) == 34) = false := by simp; omega
  obtain ⟨vn, vy⟩ := sg_facts ha hs hd h34
  have VN := hide vn
  have VY := hide vy
  have HS := hide hs
  have HD := hide hd
  have hrl : (l.drop at0).length = l.length - at0 := List.length_drop
  have EX := hide (fun n => lext_eq l at0 (at0 + n))
  clear vn vy hs hd h34
  generalize nxtAt l at0 = V at *
  generalize l.drop at0 = r at *
  have row0 := row_sgs (w.alloc (.cells #[.int .i64 0, .string ⟨#[]⟩, .int .i64 0] 33))
  rw [show (w.alloc (.cells #[.int .i64 0, .string ⟨#[]⟩, .int .i64 0] 33)).heap.size = w.heap.size + 1 by simp] at row0
  have ROW := hide row0
  clear row0
  have d0 : ((w.alloc (.cells #[.int .i64 0, .string ⟨#[]⟩, .int .i64 0] 33)).alloc (.cells #[.string ⟨#[60, 61]⟩, .string ⟨#[62, 61]⟩, .string ⟨#[33, 61]⟩, .string ⟨#[46, 46]⟩, .string ⟨#[60]⟩, .string ⟨#[62]⟩, .string ⟨#[61]⟩, .string ⟨#[43]⟩, .string ⟨#[45]⟩, .string ⟨#[42]⟩, .string ⟨#[47]⟩, .string ⟨#[40]⟩, .string ⟨#[41]⟩, .string ⟨#[91]⟩, .string ⟨#[93]⟩, .string ⟨#[44]⟩] 9)).cell? ⟨w.heap.size, 0, none⟩ = some (.int .i64 0) := by go_simp
  have d1 : ((w.alloc (.cells #[.int .i64 0, .string ⟨#[]⟩, .int .i64 0] 33)).alloc (.cells #[.string ⟨#[60, 61]⟩, .string ⟨#[62, 61]⟩, .string ⟨#[33, 61]⟩, .string ⟨#[46, 46]⟩, .string ⟨#[60]⟩, .string ⟨#[62]⟩, .string ⟨#[61]⟩, .string ⟨#[43]⟩, .string ⟨#[45]⟩, .string ⟨#[42]⟩, .string ⟨#[47]⟩, .string ⟨#[40]⟩, .string ⟨#[41]⟩, .string ⟨#[91]⟩, .string ⟨#[93]⟩, .string ⟨#[44]⟩] 9)).cell? ⟨w.heap.size, 1, none⟩ = some (.string ⟨#[]⟩) := by go_simp
  have d2 : ((w.alloc (.cells #[.int .i64 0, .string ⟨#[]⟩, .int .i64 0] 33)).alloc (.cells #[.string ⟨#[60, 61]⟩, .string ⟨#[62, 61]⟩, .string ⟨#[33, 61]⟩, .string ⟨#[46, 46]⟩, .string ⟨#[60]⟩, .string ⟨#[62]⟩, .string ⟨#[61]⟩, .string ⟨#[43]⟩, .string ⟨#[45]⟩, .string ⟨#[42]⟩, .string ⟨#[47]⟩, .string ⟨#[40]⟩, .string ⟨#[41]⟩, .string ⟨#[91]⟩, .string ⟨#[93]⟩, .string ⟨#[44]⟩] 9)).cell? ⟨w.heap.size, 2, none⟩ = some (.int .i64 0) := by go_simp
  have f0 : ((w.alloc (.cells #[.int .i64 0, .string ⟨#[]⟩, .int .i64 0] 33)).alloc (.cells #[.string ⟨#[60, 61]⟩, .string ⟨#[62, 61]⟩, .string ⟨#[33, 61]⟩, .string ⟨#[46, 46]⟩, .string ⟨#[60]⟩, .string ⟨#[62]⟩, .string ⟨#[61]⟩, .string ⟨#[43]⟩, .string ⟨#[45]⟩, .string ⟨#[42]⟩, .string ⟨#[47]⟩, .string ⟨#[40]⟩, .string ⟨#[41]⟩, .string ⟨#[91]⟩, .string ⟨#[93]⟩, .string ⟨#[44]⟩] 9)).frozen? ⟨w.heap.size, 0, none⟩ = false := by go_simp
  have f1 : ((w.alloc (.cells #[.int .i64 0, .string ⟨#[]⟩, .int .i64 0] 33)).alloc (.cells #[.string ⟨#[60, 61]⟩, .string ⟨#[62, 61]⟩, .string ⟨#[33, 61]⟩, .string ⟨#[46, 46]⟩, .string ⟨#[60]⟩, .string ⟨#[62]⟩, .string ⟨#[61]⟩, .string ⟨#[43]⟩, .string ⟨#[45]⟩, .string ⟨#[42]⟩, .string ⟨#[47]⟩, .string ⟨#[40]⟩, .string ⟨#[41]⟩, .string ⟨#[91]⟩, .string ⟨#[93]⟩, .string ⟨#[44]⟩] 9)).frozen? ⟨w.heap.size, 1, none⟩ = false := by go_simp
  have f2 : ((w.alloc (.cells #[.int .i64 0, .string ⟨#[]⟩, .int .i64 0] 33)).alloc (.cells #[.string ⟨#[60, 61]⟩, .string ⟨#[62, 61]⟩, .string ⟨#[33, 61]⟩, .string ⟨#[46, 46]⟩, .string ⟨#[60]⟩, .string ⟨#[62]⟩, .string ⟨#[61]⟩, .string ⟨#[43]⟩, .string ⟨#[45]⟩, .string ⟨#[42]⟩, .string ⟨#[47]⟩, .string ⟨#[40]⟩, .string ⟨#[41]⟩, .string ⟨#[91]⟩, .string ⟨#[93]⟩, .string ⟨#[44]⟩] 9)).frozen? ⟨w.heap.size, 2, none⟩ = false := by go_simp
  have BEL := hide (below2 w (.cells #[.int .i64 0, .string ⟨#[]⟩, .int .i64 0] 33) (.cells #[.string ⟨#[60, 61]⟩, .string ⟨#[62, 61]⟩, .string ⟨#[33, 61]⟩, .string ⟨#[46, 46]⟩, .string ⟨#[60]⟩, .string ⟨#[62]⟩, .string ⟨#[61]⟩, .string ⟨#[43]⟩, .string ⟨#[45]⟩, .string ⟨#[42]⟩, .string ⟨#[47]⟩, .string ⟨#[40]⟩, .string ⟨#[41]⟩, .string ⟨#[91]⟩, .string ⟨#[93]⟩, .string ⟨#[44]⟩] 9))
  go_enter Tryd.func21, Tryd.ntmps21
  go_wp2_with fail
  refine (rletter_any l[at0] _).mono ?_
  rintro e w1 ⟨rfl, rfl⟩
  rw [unhide HS]
  go_wp2_with fail
  refine (rdigit_any l[at0] _).mono ?_
  rintro e w1 ⟨rfl, rfl⟩
  rw [unhide HD]
  go_wp2_with fail
  generalize (w.alloc (.cells #[.int .i64 0, .string ⟨#[]⟩, .int .i64 0] 33)).alloc (.cells #[.string ⟨#[60, 61]⟩, .string ⟨#[62, 61]⟩, .string ⟨#[33, 61]⟩, .string ⟨#[46, 46]⟩, .string ⟨#[60]⟩, .string ⟨#[62]⟩, .string ⟨#[61]⟩, .string ⟨#[43]⟩, .string ⟨#[45]⟩, .string ⟨#[42]⟩, .string ⟨#[47]⟩, .string ⟨#[40]⟩, .string ⟨#[41]⟩, .string ⟨#[91]⟩, .string ⟨#[93]⟩, .string ⟨#[44]⟩] 9) = W at *
  go_loopw [9] (fun i wr => ∃ (k n : Nat), k ≤ 16 ∧ i = .int .i64 k ∧ wr = W.drewN n ∧ Hid (sgn (sgs.drop k) r = sgn sgs r)) (fun i _ => 16 - (intOf i).toNat)
  case atStart => exact ⟨0, 0, by omega, rfl, rfl, hide rfl⟩
  case round =>
    obtain ⟨k, n, hk, rfl, rfl, HR⟩ := hrel
    by_cases hlt : k < 16
    · have row := unhide ROW k hlt
      have ST := hide (sgn_step r hlt)
      have hg := sgs_len hlt
      generalize sgs.getD k [] = g at *
      by_cases hle : (g.length : Int) ≤ (l.length : Int) - at0
      · have e1 : (ByteArray.mk l.toArray).extract at0 (at0 + g.length) = ByteArray.mk (r.take g.length).toArray := by rw [unhide EX, Nat.add_sub_cancel_left]
        have hp : preB g r = (r.take g.length == g) := by unfold preB; rw [decide_eq_true (by omega)]; rfl
        cases hq : (r.take g.length == g)
        · have HE := hide (show sgn (sgs.drop (k + 1)) r = sgn sgs r by rw [← unhide HR, unhide ST, hp, hq]; rfl)
          clear hp
          go_wp2_with fail
          go_quiet (fail)
          go_wp2_with fail
          go_roundw
          case rel => exact ⟨k + 1, _, by omega, by go_num, (by first | rfl | exact World.drewN_drewN _ _ _), HE⟩
          case measure => simp [intOf]; omega
        · have HV := hide (unhide VY g hg.1 (hp.trans hq) (by rw [← unhide HR, unhide ST, hp, hq]; rfl)).symm
          clear hp
          go_wp2_with fail
          go_quiet (fail)
          go_wp2_with fail
          go_region
          go_wp2_with fail
          refine bodyPost_ret (v := .tuple #[.agg #[.int .i64 4, .string ⟨g.toArray⟩, .int .i64 (at0 : Int)], .int .i64 ((at0 : Int) + g.length), .int .i64 0]) (by simp [results, Tryd.results21, go_sem, d0, d1, d2]) rfl ⟨ret_val (unhide HV), ?_⟩
          exact below4 (below_drewN (unhide BEL) _) (Nat.le_refl _)
      · have hd : decide ((g.length : Int) ≤ (l.length : Int) - at0) = false := decide_eq_false hle
        have HE := hide (show sgn (sgs.drop (k + 1)) r = sgn sgs r by
          rw [← unhide HR, unhide ST]
          have : preB g r = false := by unfold preB; rw [decide_eq_false (by omega)]; rfl
          rw [this]; rfl)
        clear hle
        go_wp2_with fail
        go_quiet (fail)
        go_wp2_with fail
        go_roundw
        case rel => exact ⟨k + 1, _, by omega, by go_num, (by first | rfl | exact World.drewN_drewN _ _ _), HE⟩
        case measure => simp [intOf]; omega
    · have HV := hide (unhide VN (by rw [← unhide HR, show k = 16 by omega]; rfl)).symm
      go_wp2_with fail
      refine bodyPost_ret (v := .tuple #[.agg #[.int .i64 0, .string ⟨#[]⟩, .int .i64 0], .int .i64 (at0 : Int), .int .i64 2]) (by simp [results, Tryd.results21, go_sem, d0, d1, d2]) rfl ⟨ret_val (unhide HV), ?_⟩
      exact below4 (below_drewN (unhide BEL) _) (Nat.le_refl _)

theorem rnext_any (l : List UInt8) (at0 : Nat) (w : World) (hl : l.length ≤ 1000) (ha : at0 < l.length) :
    Calls Tryd.prog 21 #[.string ⟨l.toArray⟩, .int .i64 at0] w fun e w' => e = .returned (nxtAt l at0) ∧ Below w.heap.size w w' := by
  obtain ⟨tk, tn⟩ := tok_cons ha
  cases hs : smB l[at0]
  · cases hd : dgB l[at0]
    · by_cases h34 : l[at0].toNat = 34
      · exact rtok_text l at0 w hl ha hs hd h34
      · exact rsign_any l at0 w hl ha hs hd h34
    · rw [hs, hd, if_neg (by simp), if_pos rfl] at tk tn
      have h := rnum_any l at0 w hl ha hs hd
      have e : nxtAt l at0 = nxtV 2 (numN (l.drop at0)) ((l.drop at0).take (numN (l.drop at0))) at0 0 := by
        unfold nxtAt tokT
        rw [tk, tn]
        rfl
      rw [e]; exact h
  · rw [hs, if_pos rfl] at tk tn
    have h := rname_any l at0 w hl ha hs
    have e : nxtAt l at0 = nxtV 1 (run nmB (l.drop at0)) ((l.drop at0).take (run nmB (l.drop at0))) at0 (flt 1 ((l.drop at0).take (run nmB (l.drop at0)))) := by
      unfold nxtAt tokT
      rw [tk, tn]
      rfl
    rw [e]; exact h
end Go.Proofs.YtlcckhlkmnnjdaaDoor

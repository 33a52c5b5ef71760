/- RLNum RLSign RLLex LAll FTake FGood QRd: laid together. -/
import Derived.Test.YtfdimdjmnfdecaaGreatKAW
import Derived.BigRegion
set_option linter.unusedVariables false
set_option linter.unusedSimpArgs false
set_option maxHeartbeats 8000000
namespace Go.Proofs.YtfdimdjmnfdecaaGreat
open Go.RowKit
section
section
variable {l : List UInt8} {at0 D : Nat}
theorem num_head (hD : at0 + run dgB (l.drop at0) = D) : numN (l.drop at0) = if (l.drop D).head? = some 46 then (if run dgB (l.drop (D + 1)) = 0 then D - at0 else D - at0 + 1 + run dgB (l.drop (D + 1))) else D - at0 := by
 unfold numN
 rw [List.drop_drop, List.drop_drop, hD, show at0 + (run dgB (l.drop at0) + 1) = D + 1 by omega, show run dgB (l.drop at0) = D - at0 by omega]
theorem num_yes (hD : at0 + run dgB (l.drop at0) = D) (h : D + 1 < l.length) (h46 : l[D].toNat = 46) (hd : dgB l[D + 1] = true) : at0 + numN (l.drop at0) = D + 1 + run dgB (l.drop (D + 1)) := by
 have e : l[D] = 46 := UInt8.toNat.inj (by rw [h46]; rfl)
 have r : 1 ≤ run dgB (l.drop (D + 1)) := by rw [drop_cons h]; exact run_pos _ hd
 rw [num_head hD, drop_cons (show D < l.length by omega), e, List.head?_cons, if_pos rfl, if_neg (by omega)]
 omega
theorem num_no (hD : at0 + run dgB (l.drop at0) = D) (h : D + 1 < l.length → ∀ (h1 : D < l.length) (h2 : D + 1 < l.length), l[D].toNat = 46 → dgB l[D + 1] = false) : at0 + numN (l.drop at0) = D := by
 rw [num_head hD]
 by_cases h1 : D < l.length
 ·rw [drop_cons h1]
  by_cases h46 : l[D] = 46
  ·rw [h46, List.head?_cons, if_pos rfl]
   have hr : run dgB (l.drop (D + 1)) = 0 := by
    by_cases h2 : D + 1 < l.length
    ·exact run_no h2 (h h2 h1 h2 (by rw [h46]; rfl))
    ·exact run_end (by omega)
   rw [if_pos hr]; omega
  ·rw [if_neg (by intro e; exact h46 (Option.some.inj e))]; omega
 ·rw [List.drop_of_length_le (by omega), if_neg (by simp)]; omega
end
set_option maxRecDepth 10000 in
theorem rnum_any (l : List UInt8) (at0 : Nat) (w : World) (hl : l.length ≤ 1000) (ha : at0 < l.length) (hs : smB l[at0] = false) (hd : dgB l[at0] = true) :
  Calls Tryz.prog 71 #[.string ⟨l.toArray⟩, .int .i64 at0] w fun e w' => e = .returned (nxtV 2 (numN (l.drop at0)) ((l.drop at0).take (numN (l.drop at0))) at0 0) ∧ Below w.heap.size w w' := by
 have hge : (⟨l.toArray⟩ : ByteArray)[at0]'(by simpa [ByteArray.size] using ha) = l[at0] := rfl
 have h1 := numN_le (l.drop at0)
 rw [List.length_drop] at h1
 have h2 := run_le dgB (l.drop at0)
 rw [List.length_drop] at h2
 have e1 : (ByteArray.mk l.toArray).extract at0 (at0 + numN (l.drop at0)) = ByteArray.mk ((l.drop at0).take (numN (l.drop at0))).toArray := by rw [lext_eq, Nat.add_sub_cancel_left]
 generalize (l.drop at0).take (numN (l.drop at0)) = t at *
 generalize hV0 : nxtV 2 (numN (l.drop at0)) t at0 0 = V
 have hEl : at0 + numN (l.drop at0) ≤ l.length := by omega
 have hEk : at0 ≤ at0 + numN (l.drop at0) := by omega
 generalize hD : at0 + run dgB (l.drop at0) = D
 have hDl : D ≤ l.length := by omega
 have YES := hide (num_yes hD)
 have NO := hide (num_no hD)
 have HD0 := hide hD
 have HVV := hide (fun E (h : at0 + numN (l.drop at0) = E) => hV0.symm.trans (nxt_ok (F := 0) rfl h))
 clear hV0 hD h1 h2
 generalize at0 + numN (l.drop at0) = E at *
 have HS := hide hs
 have HD := hide hd
 have HV := hide (unhide HVV E rfl).symm
 clear hs hd HVV
 go_enter Tryz.func71, Tryz.ntmps71
 go_wp2_with fail
 refine (rletter_any l[at0] _).mono ?_
 rintro e w1 ⟨rfl, rfl⟩
 rw [unhide HS]
 go_wp2_with fail
 refine (rdigit_any l[at0] _).mono ?_
 rintro e w1 ⟨rfl, rfl⟩
 rw [unhide HD]
 go_wp2_with fail
 go_loop [7] (fun i => ∃ k : Nat, at0 ≤ k ∧ k ≤ l.length ∧ i = .int .i64 k ∧ Hid (k + run dgB (l.drop k) = D)) (fun i => l.length - (intOf i).toNat)
 case atStart => exact ⟨at0, by omega, by omega, rfl, HD0⟩
 case round =>
  clear HD0
  obtain ⟨k, hk1, hk2, rfl, HR⟩ := hrel
  by_cases hlt : k < l.length
  ·have hgk : (⟨l.toArray⟩ : ByteArray)[k]'(by simpa [ByteArray.size] using hlt) = l[k] := rfl
   cases hdk : dgB l[k]
   ·have HDK := hide hdk
    have hkD : k = D := by have := unhide HR; rw [run_no hlt hdk] at this; exact this
    subst hkD
    clear hdk HR
    go_wp2_with fail
    refine (rdigit_any l[k] _).mono ?_
    rintro e w1 ⟨rfl, rfl⟩
    rw [unhide HDK]
    by_cases hk3 : k + 1 < l.length
    ·have hgk1 : (⟨l.toArray⟩ : ByteArray)[k + 1]'(by simpa [ByteArray.size] using hk3) = l[k + 1] := rfl
     by_cases h46 : l[k].toNat = 46
     ·have e46 : ((l[k].toNat : Int) == 46) = true := by simp; omega
      cases hd1 : dgB l[k + 1]
      ·have HD1 := hide hd1
       have hE : k = E := (unhide NO (fun _ _ _ _ => hd1)).symm
       subst hE
       clear hd1 h46
       go_wp2_with fail
       refine (rdigit_any l[k + 1] _).mono ?_
       rintro e w1 ⟨rfl, rfl⟩
       rw [unhide HD1]
       go_wp2_with fail
       refine bodyPost_ret (v := .tuple #[.agg #[.int .i64 2, .string ⟨t.toArray⟩, .int .i64 (at0 : Int)], .int .i64 (k : Int), .int .i64 0]) zR71 rfl ⟨ret_val (unhide HV), ?_⟩
       exact below1 w _
      ·have HD1 := hide hd1
       have HE0 := hide (unhide YES hk3 h46 hd1).symm
       clear hd1 h46
       go_wp2_with fail
       refine (rdigit_any l[k + 1] _).mono ?_
       rintro e w1 ⟨rfl, rfl⟩
       rw [unhide HD1]
       go_wp2_with fail
       go_loop [7] (fun i => ∃ j : Nat, at0 ≤ j ∧ j ≤ l.length ∧ i = .int .i64 j ∧ Hid (j + run dgB (l.drop j) = E)) (fun i => l.length - (intOf i).toNat)
       case atStart => exact ⟨k + 1, by omega, by omega, by go_num, HE0⟩
       case round =>
        clear HE0
        obtain ⟨j, hj1, hj2, rfl, HJ⟩ := hrel
        by_cases hjt : j < l.length
        ·have hgj : (⟨l.toArray⟩ : ByteArray)[j]'(by simpa [ByteArray.size] using hjt) = l[j] := rfl
         cases hdj : dgB l[j]
         ·have HDJ := hide hdj
          have hjE : j = E := by have := unhide HJ; rw [run_no hjt hdj] at this; exact this
          subst hjE
          clear hdj HJ
          go_wp2_with fail
          refine (rdigit_any l[j] _).mono ?_
          rintro e w1 ⟨rfl, rfl⟩
          rw [unhide HDJ]
          go_wp2_with fail
          refine bodyPost_ret (v := .tuple #[.agg #[.int .i64 2, .string ⟨t.toArray⟩, .int .i64 (at0 : Int)], .int .i64 (j : Int), .int .i64 0]) zR71 rfl ⟨ret_val (unhide HV), ?_⟩
          exact below1 w _
         ·have HDJ := hide hdj
          have HE := hide (show j + 1 + run dgB (l.drop (j + 1)) = E by rw [← unhide HJ]; exact (run_yes hjt hdj).symm)
          clear hdj
          go_wp2_with fail
          refine (rdigit_any l[j] _).mono ?_
          rintro e w1 ⟨rfl, rfl⟩
          rw [unhide HDJ]
          go_wp2_with fail
          go_round
          case rel => exact ⟨j + 1, by omega, by omega, by go_num, HE⟩
          case measure => simp [intOf]; omega
        ·have hjE : j = E := by have := unhide HJ; rw [run_end (by omega)] at this; exact this
         subst hjE
         clear HJ
         go_wp2_with fail
         refine bodyPost_ret (v := .tuple #[.agg #[.int .i64 2, .string ⟨t.toArray⟩, .int .i64 (at0 : Int)], .int .i64 (j : Int), .int .i64 0]) zR71 rfl ⟨ret_val (unhide HV), ?_⟩
         exact below1 w _
     ·have e46 : ((l[k].toNat : Int) == 46) = false := by simp; omega
      have hE : k = E := (unhide NO (fun _ _ _ h => absurd h h46)).symm
      subst hE
      clear h46
      go_wp2_with fail
      refine bodyPost_ret (v := .tuple #[.agg #[.int .i64 2, .string ⟨t.toArray⟩, .int .i64 (at0 : Int)], .int .i64 (k : Int), .int .i64 0]) zR71 rfl ⟨ret_val (unhide HV), ?_⟩
      exact below1 w _
    ·have hE : k = E := (unhide NO (fun h => absurd h hk3)).symm
     subst hE
     go_wp2_with fail
     refine bodyPost_ret (v := .tuple #[.agg #[.int .i64 2, .string ⟨t.toArray⟩, .int .i64 (at0 : Int)], .int .i64 (k : Int), .int .i64 0]) zR71 rfl ⟨ret_val (unhide HV), ?_⟩
     exact below1 w _
   ·have HDK := hide hdk
    have HE := hide (show k + 1 + run dgB (l.drop (k + 1)) = D by rw [← unhide HR]; exact (run_yes hlt hdk).symm)
    clear hdk
    go_wp2_with fail
    refine (rdigit_any l[k] _).mono ?_
    rintro e w1 ⟨rfl, rfl⟩
    rw [unhide HDK]
    go_wp2_with fail
    go_round
    case rel => exact ⟨k + 1, by omega, by omega, by go_num, HE⟩
    case measure => simp [intOf]; omega
  ·have hkD : k = D := by have := unhide HR; rw [run_end (by omega)] at this; exact this
   subst hkD
   have hE : k = E := (unhide NO (fun h => absurd h (by omega))).symm
   subst hE
   clear HR
   go_wp2_with fail
   refine bodyPost_ret (v := .tuple #[.agg #[.int .i64 2, .string ⟨t.toArray⟩, .int .i64 (at0 : Int)], .int .i64 (k : Int), .int .i64 0]) zR71 rfl ⟨ret_val (unhide HV), ?_⟩
   exact below1 w _
end
section
section
variable {l : List UInt8} {at0 : Nat}
theorem sg_facts (ha : at0 < l.length) (hs : smB l[at0] = false) (hd : dgB l[at0] = false) (h34 : l[at0].toNat ≠ 34) :
  (sgn sgs (l.drop at0) = 0 → nxtAt l at0 = .tuple #[.agg #[.int .i64 0, .string ⟨#[]⟩, .int .i64 0], .int .i64 (at0 : Int), .int .i64 2]) ∧
  (∀ g : List UInt8, 1 ≤ g.length → preB g (l.drop at0) = true → sgn sgs (l.drop at0) = g.length → nxtAt l at0 = .tuple #[.agg #[.int .i64 4, .string ⟨g.toArray⟩, .int .i64 (at0 : Int)], .int .i64 ((at0 : Int) + g.length), .int .i64 0]) := by
 obtain ⟨tk, tn⟩ := tok_cons ha
 rw [hs, hd, if_neg (by simp), if_neg (by simp), if_neg h34] at tk tn
 constructor
 ·intro h0
  rw [if_pos h0] at tk
  have hF : flt (tokK (l.drop at0)) (tokT (l.drop at0)) = 2 := by unfold flt; rw [if_pos tk]
  unfold nxtAt
  rw [hF]; exact nxt_err (F := 2) (by omega)
 ·intro g hg hp hl
  rw [if_neg (by omega)] at tk
  rw [hl] at tn
  have hT : tokT (l.drop at0) = g := by
   unfold tokT saidL
   rw [tk, tn, if_neg (by omega)]
   unfold preB at hp
   simp only [Bool.and_eq_true, decide_eq_true_eq] at hp
   exact eq_of_beq hp.2
  have hF : flt (tokK (l.drop at0)) (tokT (l.drop at0)) = 0 := by
   unfold flt
   rw [tk, if_neg (by omega), if_neg (by omega), if_neg (by omega)]
  unfold nxtAt
  rw [nxt_ok hF (show at0 + tokN (l.drop at0) = at0 + g.length by omega), tk, hT]
  simp
end
theorem row_sgs (w : World) : ∀ k, k < 16 → (w.alloc (.cells #[.string ⟨#[60, 61]⟩, .string ⟨#[62, 61]⟩, .string ⟨#[33, 61]⟩, .string ⟨#[46, 46]⟩, .string ⟨#[60]⟩, .string ⟨#[62]⟩, .string ⟨#[61]⟩, .string ⟨#[43]⟩, .string ⟨#[45]⟩, .string ⟨#[42]⟩, .string ⟨#[47]⟩, .string ⟨#[40]⟩, .string ⟨#[41]⟩, .string ⟨#[91]⟩, .string ⟨#[93]⟩, .string ⟨#[44]⟩] 9)).cell? ⟨w.heap.size, k, none⟩ = some (.string ⟨(sgs.getD k []).toArray⟩) := by
 intro k hk
 have h := row_strs w sgs 9 k
 rw [List.getElem?_eq_getElem (show k < sgs.length from hk)] at h
 have e : sgs.getD k [] = sgs[k]'(show k < sgs.length from hk) := by simp [show k < sgs.length from hk]
 rw [e]
 exact h
set_option maxRecDepth 10000 in
theorem rsign_any (l : List UInt8) (at0 : Nat) (w : World) (hl : l.length ≤ 1000) (ha : at0 < l.length) (hs : smB l[at0] = false) (hd : dgB l[at0] = false) (h34 : l[at0].toNat ≠ 34) :
  Calls Tryz.prog 71 #[.string ⟨l.toArray⟩, .int .i64 at0] w fun e w' => e = .returned (nxtAt l at0) ∧ Below w.heap.size w w' := by
 have hge : (⟨l.toArray⟩ : ByteArray)[at0]'(by simpa [ByteArray.size] using ha) = l[at0] := rfl
 have e34 : ((l[at0].toNat : Int) == 34) = false := by simp; omega
 obtain ⟨vn, vy⟩ := sg_facts ha hs hd h34
 have VN := hide vn
 have VY := hide vy
 have HS := hide hs
 have HD := hide hd
 have hrl : (l.drop at0).length = l.length - at0 := List.length_drop
 have EX := hide (fun n => lext_eq l at0 (at0 + n))
 clear vn vy hs hd h34
 generalize nxtAt l at0 = V at *
 generalize l.drop at0 = r at *
 have row0 := row_sgs (w.alloc (.cells #[.int .i64 0, .string ⟨#[]⟩, .int .i64 0] 77))
 rw [show (w.alloc (.cells #[.int .i64 0, .string ⟨#[]⟩, .int .i64 0] 77)).heap.size = w.heap.size + 1 by simp] at row0
 have ROW := hide row0
 clear row0
 have d0 : ((w.alloc (.cells #[.int .i64 0, .string ⟨#[]⟩, .int .i64 0] 77)).alloc (.cells #[.string ⟨#[60, 61]⟩, .string ⟨#[62, 61]⟩, .string ⟨#[33, 61]⟩, .string ⟨#[46, 46]⟩, .string ⟨#[60]⟩, .string ⟨#[62]⟩, .string ⟨#[61]⟩, .string ⟨#[43]⟩, .string ⟨#[45]⟩, .string ⟨#[42]⟩, .string ⟨#[47]⟩, .string ⟨#[40]⟩, .string ⟨#[41]⟩, .string ⟨#[91]⟩, .string ⟨#[93]⟩, .string ⟨#[44]⟩] 9)).cell? ⟨w.heap.size, 0, none⟩ = some (.int .i64 0) := by go_simp
 have d1 : ((w.alloc (.cells #[.int .i64 0, .string ⟨#[]⟩, .int .i64 0] 77)).alloc (.cells #[.string ⟨#[60, 61]⟩, .string ⟨#[62, 61]⟩, .string ⟨#[33, 61]⟩, .string ⟨#[46, 46]⟩, .string ⟨#[60]⟩, .string ⟨#[62]⟩, .string ⟨#[61]⟩, .string ⟨#[43]⟩, .string ⟨#[45]⟩, .string ⟨#[42]⟩, .string ⟨#[47]⟩, .string ⟨#[40]⟩, .string ⟨#[41]⟩, .string ⟨#[91]⟩, .string ⟨#[93]⟩, .string ⟨#[44]⟩] 9)).cell? ⟨w.heap.size, 1, none⟩ = some (.string ⟨#[]⟩) := by go_simp
 have d2 : ((w.alloc (.cells #[.int .i64 0, .string ⟨#[]⟩, .int .i64 0] 77)).alloc (.cells #[.string ⟨#[60, 61]⟩, .string ⟨#[62, 61]⟩, .string ⟨#[33, 61]⟩, .string ⟨#[46, 46]⟩, .string ⟨#[60]⟩, .string ⟨#[62]⟩, .string ⟨#[61]⟩, .string ⟨#[43]⟩, .string ⟨#[45]⟩, .string ⟨#[42]⟩, .string ⟨#[47]⟩, .string ⟨#[40]⟩, .string ⟨#[41]⟩, .string ⟨#[91]⟩, .string ⟨#[93]⟩, .string ⟨#[44]⟩] 9)).cell? ⟨w.heap.size, 2, none⟩ = some (.int .i64 0) := by go_simp
 have f0 : ((w.alloc (.cells #[.int .i64 0, .string ⟨#[]⟩, .int .i64 0] 77)).alloc (.cells #[.string ⟨#[60, 61]⟩, .string ⟨#[62, 61]⟩, .string ⟨#[33, 61]⟩, .string ⟨#[46, 46]⟩, .string ⟨#[60]⟩, .string ⟨#[62]⟩, .string ⟨#[61]⟩, .string ⟨#[43]⟩, .string ⟨#[45]⟩, .string ⟨#[42]⟩, .string ⟨#[47]⟩, .string ⟨#[40]⟩, .string ⟨#[41]⟩, .string ⟨#[91]⟩, .string ⟨#[93]⟩, .string ⟨#[44]⟩] 9)).frozen? ⟨w.heap.size, 0, none⟩ = false := by go_simp
 have f1 : ((w.alloc (.cells #[.int .i64 0, .string ⟨#[]⟩, .int .i64 0] 77)).alloc (.cells #[.string ⟨#[60, 61]⟩, .string ⟨#[62, 61]⟩, .string ⟨#[33, 61]⟩, .string ⟨#[46, 46]⟩, .string ⟨#[60]⟩, .string ⟨#[62]⟩, .string ⟨#[61]⟩, .string ⟨#[43]⟩, .string ⟨#[45]⟩, .string ⟨#[42]⟩, .string ⟨#[47]⟩, .string ⟨#[40]⟩, .string ⟨#[41]⟩, .string ⟨#[91]⟩, .string ⟨#[93]⟩, .string ⟨#[44]⟩] 9)).frozen? ⟨w.heap.size, 1, none⟩ = false := by go_simp
 have f2 : ((w.alloc (.cells #[.int .i64 0, .string ⟨#[]⟩, .int .i64 0] 77)).alloc (.cells #[.string ⟨#[60, 61]⟩, .string ⟨#[62, 61]⟩, .string ⟨#[33, 61]⟩, .string ⟨#[46, 46]⟩, .string ⟨#[60]⟩, .string ⟨#[62]⟩, .string ⟨#[61]⟩, .string ⟨#[43]⟩, .string ⟨#[45]⟩, .string ⟨#[42]⟩, .string ⟨#[47]⟩, .string ⟨#[40]⟩, .string ⟨#[41]⟩, .string ⟨#[91]⟩, .string ⟨#[93]⟩, .string ⟨#[44]⟩] 9)).frozen? ⟨w.heap.size, 2, none⟩ = false := by go_simp
 have BEL := hide (below2 w (.cells #[.int .i64 0, .string ⟨#[]⟩, .int .i64 0] 77) (.cells #[.string ⟨#[60, 61]⟩, .string ⟨#[62, 61]⟩, .string ⟨#[33, 61]⟩, .string ⟨#[46, 46]⟩, .string ⟨#[60]⟩, .string ⟨#[62]⟩, .string ⟨#[61]⟩, .string ⟨#[43]⟩, .string ⟨#[45]⟩, .string ⟨#[42]⟩, .string ⟨#[47]⟩, .string ⟨#[40]⟩, .string ⟨#[41]⟩, .string ⟨#[91]⟩, .string ⟨#[93]⟩, .string ⟨#[44]⟩] 9))
 go_enter Tryz.func71, Tryz.ntmps71
 go_wp2_with fail
 refine (rletter_any l[at0] _).mono ?_
 rintro e w1 ⟨rfl, rfl⟩
 rw [unhide HS]
 go_wp2_with fail
 refine (rdigit_any l[at0] _).mono ?_
 rintro e w1 ⟨rfl, rfl⟩
 rw [unhide HD]
 go_wp2_with fail
 generalize (w.alloc (.cells #[.int .i64 0, .string ⟨#[]⟩, .int .i64 0] 77)).alloc (.cells #[.string ⟨#[60, 61]⟩, .string ⟨#[62, 61]⟩, .string ⟨#[33, 61]⟩, .string ⟨#[46, 46]⟩, .string ⟨#[60]⟩, .string ⟨#[62]⟩, .string ⟨#[61]⟩, .string ⟨#[43]⟩, .string ⟨#[45]⟩, .string ⟨#[42]⟩, .string ⟨#[47]⟩, .string ⟨#[40]⟩, .string ⟨#[41]⟩, .string ⟨#[91]⟩, .string ⟨#[93]⟩, .string ⟨#[44]⟩] 9) = W at *
 go_loopw [9] (fun i wr => ∃ (k n : Nat), k ≤ 16 ∧ i = .int .i64 k ∧ wr = W.drewN n ∧ Hid (sgn (sgs.drop k) r = sgn sgs r)) (fun i _ => 16 - (intOf i).toNat)
 case atStart => exact ⟨0, 0, by omega, rfl, rfl, hide rfl⟩
 case round =>
  obtain ⟨k, n, hk, rfl, rfl, HR⟩ := hrel
  by_cases hlt : k < 16
  ·have row := unhide ROW k hlt
   have ST := hide (sgn_step r hlt)
   have hg := sgs_len hlt
   generalize sgs.getD k [] = g at *
   by_cases hle : (g.length : Int) ≤ (l.length : Int) - at0
   ·have e1 : (ByteArray.mk l.toArray).extract at0 (at0 + g.length) = ByteArray.mk (r.take g.length).toArray := by rw [unhide EX, Nat.add_sub_cancel_left]
    have hp : preB g r = (r.take g.length == g) := by unfold preB; rw [decide_eq_true (by omega)]; rfl
    cases hq : (r.take g.length == g)
    ·have HE := hide (show sgn (sgs.drop (k + 1)) r = sgn sgs r by rw [← unhide HR, unhide ST, hp, hq]; rfl)
     clear hp
     go_wp2_with fail
     go_quiet (fail)
     go_wp2_with fail
     go_roundw
     case rel => exact ⟨k + 1, _, by omega, by go_num, (by first | rfl | exact World.drewN_drewN _ _ _), HE⟩
     case measure => simp [intOf]; omega
    ·have HV := hide (unhide VY g hg.1 (hp.trans hq) (by rw [← unhide HR, unhide ST, hp, hq]; rfl)).symm
     clear hp
     go_wp2_with fail
     go_quiet (fail)
     go_wp2_with fail
     go_region
     go_wp2_with fail
     refine bodyPost_ret (v := .tuple #[.agg #[.int .i64 4, .string ⟨g.toArray⟩, .int .i64 (at0 : Int)], .int .i64 ((at0 : Int) + g.length), .int .i64 0]) zR71d0d1d2 rfl ⟨ret_val (unhide HV), ?_⟩
     exact below4 (below_drewN (unhide BEL) _) (Nat.le_refl _)
   ·have hd : decide ((g.length : Int) ≤ (l.length : Int) - at0) = false := decide_eq_false hle
    have HE := hide (show sgn (sgs.drop (k + 1)) r = sgn sgs r by
     rw [← unhide HR, unhide ST]
     have : preB g r = false := by unfold preB; rw [decide_eq_false (by omega)]; rfl
     rw [this]; rfl)
    clear hle
    go_wp2_with fail
    go_quiet (fail)
    go_wp2_with fail
    go_roundw
    case rel => exact ⟨k + 1, _, by omega, by go_num, (by first | rfl | exact World.drewN_drewN _ _ _), HE⟩
    case measure => simp [intOf]; omega
  ·have HV := hide (unhide VN (by rw [← unhide HR, show k = 16 by omega]; rfl)).symm
   go_wp2_with fail
   refine bodyPost_ret (v := .tuple #[.agg #[.int .i64 0, .string ⟨#[]⟩, .int .i64 0], .int .i64 (at0 : Int), .int .i64 2]) zR71d0d1d2 rfl ⟨ret_val (unhide HV), ?_⟩
   exact below4 (below_drewN (unhide BEL) _) (Nat.le_refl _)
theorem rnext_any (l : List UInt8) (at0 : Nat) (w : World) (hl : l.length ≤ 1000) (ha : at0 < l.length) :
  Calls Tryz.prog 71 #[.string ⟨l.toArray⟩, .int .i64 at0] w fun e w' => e = .returned (nxtAt l at0) ∧ Below w.heap.size w w' := by
 obtain ⟨tk, tn⟩ := tok_cons ha
 cases hs : smB l[at0]
 ·cases hd : dgB l[at0]
  ·by_cases h34 : l[at0].toNat = 34
   ·exact rtok_text l at0 w hl ha hs hd h34
   ·exact rsign_any l at0 w hl ha hs hd h34
  ·rw [hs, hd, if_neg (by simp), if_pos rfl] at tk tn
   have h := rnum_any l at0 w hl ha hs hd
   have e : nxtAt l at0 = nxtV 2 (numN (l.drop at0)) ((l.drop at0).take (numN (l.drop at0))) at0 0 := by
    unfold nxtAt tokT
    rw [tk, tn]
    rfl
   rw [e]; exact h
 ·rw [hs, if_pos rfl] at tk tn
  have h := rname_any l at0 w hl ha hs
  have e : nxtAt l at0 = nxtV 1 (run nmB (l.drop at0)) ((l.drop at0).take (run nmB (l.drop at0))) at0 (flt 1 ((l.drop at0).take (run nmB (l.drop at0)))) := by
   unfold nxtAt tokT
   rw [tk, tn]
   rfl
  rw [e]; exact h
end
section
theorem rlex_long (l : List UInt8) (w : World) (hl : l.length ≤ 1000) (h2 : 200 < l.length) :
  Calls Tryz.prog 37 #[.string ⟨l.toArray⟩] w fun e w' => LexRes w.heap.size (lexT l) e w' ∧ w' = w := by
 have HR := hide (show lexT l = ([], 0, 13) by unfold lexT; rw [if_pos h2])
 generalize lexT l = R at *
 go_enter Tryz.func37, Tryz.ntmps37
 go_wp2_with fail
 go_ret3
 rw [unhide HR]
 exact ⟨⟨_, rfl, World.ownsRow_nil _ _ _ _⟩, rfl⟩
theorem tokE_flt {r : List UInt8} {n : Nat} : tokE r n = (if flt (tokK r) (tokT r) = 0 ∧ 60 ≤ n then 13 else flt (tokK r) (tokT r)) := rfl
theorem nxtAt_ok {l : List UInt8} {k : Nat} (h : flt (tokK (l.drop k)) (tokT (l.drop k)) = 0) : nxtAt l k = .tuple #[.agg #[.int .i64 ((tokK (l.drop k) : Nat) : Int), .string ⟨(tokT (l.drop k)).toArray⟩, .int .i64 (k : Int)], .int .i64 ((k + tokN (l.drop k) : Nat) : Int), .int .i64 0] := nxt_ok h rfl
theorem nxtAt_err {l : List UInt8} {k : Nat} (h : flt (tokK (l.drop k)) (tokT (l.drop k)) ≠ 0) : nxtAt l k = .tuple #[.agg #[.int .i64 0, .string ⟨#[]⟩, .int .i64 0], .int .i64 (k : Int), .int .i64 ((flt (tokK (l.drop k)) (tokT (l.drop k)) : Nat) : Int)] := nxt_err h
theorem rlex_any (l : List UInt8) (w : World) (h2 : l.length ≤ 200) :
  Calls Tryz.prog 37 #[.string ⟨l.toArray⟩] w fun e w' => LexRes w.heap.size (lexT l) e w' ∧ Below w.heap.size w w' := by
 have hl : l.length ≤ 1000 := by omega
 have HR0 := hide (lexT_glue h2).symm
 generalize lexT l = R at *
 generalize hB : w.heap.size = B at *
 have HB := hide hB
 clear hB
 go_enter Tryz.func37, Tryz.ntmps37
 go_wp2_with fail
 go_loopw [5, 6] (fun v i wr => ∃ (acc : List Tk) (k : Nat), k ≤ l.length ∧ i = .int .i64 k ∧ acc.length ≤ 60 ∧ Below B w wr ∧ Hid (wr.ownsRow B 77 3 v acc.length (tksC acc)) ∧ Hid (glue acc (lexS (l.drop k) 0 k acc.length) = R)) (fun _ i _ => l.length - (intOf i).toNat)
 case atStart => exact ⟨[], 0, Nat.zero_le _, rfl, by simp, Below.refl _ _, hide (World.ownsRow_nil _ _ _ _), HR0⟩
 case round =>
  clear HR0
  obtain ⟨acc, k, hk, rfl, hacc, bel, OWN, HR⟩ := hrel
  have zB : B ≤ wr.heap.size := by have := bel.size; rw [unhide HB] at this; exact this
  by_cases hlt : k < l.length
  ·have hgk : (⟨l.toArray⟩ : ByteArray)[k]'(by simpa [ByteArray.size] using hlt) = l[k] := rfl
   have HBL := hide (bl_eq l[k])
   cases hb : blB l[k]
   ·have ebl : ((l[k].toNat : Int) == 32) = false := by rw [unhide HBL, hb]
    have T := hide (fun w => rnext_any l k w hl hlt)
    have tb := tokN_bd (l.drop k)
    rw [List.length_drop] at tb
    obtain ⟨a, cap, rfl⟩ := owns_form (unhide OWN)
    have ER := hide (fun he => lex_err (n := acc.length) hlt hb he)
    have OK := hide (fun he => lex_tok (n := acc.length) hlt hb he)
    have KD := hide (fun he => tokE_kind (r := l.drop k) (n := acc.length) he)
    have EF := hide (tokE_flt (r := l.drop k) (n := acc.length))
    clear hb
    by_cases hf : flt (tokK (l.drop k)) (tokT (l.drop k)) = 0
    ·rw [nxtAt_ok hf] at T
     rw [hf] at EF
     have hEl : k + tokN (l.drop k) ≤ l.length := by omega
     have hE1 : tokK (l.drop k) ≠ 0 → k < k + tokN (l.drop k) := by omega
     clear hf tb
     generalize tokK (l.drop k) = K at *
     generalize tokT (l.drop k) = tT at *
     generalize k + tokN (l.drop k) = E at *
     go_wp2_with fail
     refine (unhide T _).mono ?_
     rintro e w2 ⟨rfl, b2⟩
     have own2 := hide (owns_below (unhide OWN) b2)
     have bel2 : Below B w w2 := bel.trans (b2.mono zB)
     have zB2 : B ≤ w2.heap.size := by have := bel2.size; rw [unhide HB] at this; exact this
     clear b2 OWN bel
     by_cases h60 : 60 ≤ acc.length
     ·have hE : tokE (l.drop k) acc.length = 13 := by rw [unhide EF, if_pos ⟨by first | rfl | trivial, h60⟩]
      have HE := hide (show R = ([], k, 13) by rw [← unhide HR, unhide ER (by omega), hE, glue_err _ _ _ (by omega)])
      clear hE
      go_wp2_with fail
      go_ret3
      exact ⟨lexRes_mk (unhide HE) (World.ownsRow_nil _ _ _ _), bel2.alloc zB2 _⟩
     ·have hE : tokE (l.drop k) acc.length = 0 := by rw [unhide EF, if_neg (fun h => h60 h.2)]
      have hE2 := hE1 (unhide KD hE)
      have HE := hide (show glue (acc ++ [(K, tT, k)]) (lexS (l.drop E) 0 E (acc ++ [(K, tT, k)]).length) = R by
       rw [List.length_append, ← glue_cons, ← unhide HR, unhide OK hE]; rfl)
      clear hE
      go_wp2_with (at_builtin; go_must (refine wpList_tok rfl _ _ rfl B _ acc rfl (((unhide own2).alloc _).alloc _) (w2.heap.size + 1) (K, tT, k) rfl ⟨by go_simp, by go_simp, by go_simp⟩ (by omega) (by simp; omega) ?_); intro v' w3 own3 gr3 bel3)
      have bel3' : Below B w w3 := bel3 _ ((bel2.alloc zB2 _).alloc (by simp; omega) _)
      have OWN3 := hide own3
      clear bel3 gr3 bel2 own2 own3
      go_roundw
      case rel => exact ⟨acc ++ [(K, tT, k)], E, hEl, rfl, by simp; omega, bel3', OWN3, HE⟩
      case measure => simp [intOf]; omega
    ·rw [nxtAt_err hf] at T
     have hE : tokE (l.drop k) acc.length = flt (tokK (l.drop k)) (tokT (l.drop k)) := by rw [unhide EF, if_neg (fun h => hf h.1)]
     have HE := hide (show R = ([], k, flt (tokK (l.drop k)) (tokT (l.drop k))) by rw [← unhide HR, unhide ER (by rw [hE]; exact hf), hE, glue_err _ _ _ hf])
     generalize flt (tokK (l.drop k)) (tokT (l.drop k)) = F0 at *
     have e0 : ((F0 : Int) != 0) = true := by simp; omega
     have e0' : ((F0 : Int) == 0) = false := by simp; omega
     clear hE hf tb
     by_cases h60 : 60 ≤ acc.length
     all_goals
      go_wp2_with fail
      refine (unhide T _).mono ?_
      rintro e w2 ⟨rfl, b2⟩
      have bel2 : Below B w w2 := bel.trans (b2.mono zB)
      have zB2 : B ≤ w2.heap.size := by have := bel2.size; rw [unhide HB] at this; exact this
      clear b2 OWN bel
      go_wp2_with fail
      go_ret3
      exact ⟨lexRes_mk (unhide HE) (World.ownsRow_nil _ _ _ _), bel2.alloc zB2 _⟩
   ·have ebl : ((l[k].toNat : Int) == 32) = true := by rw [unhide HBL, hb]
    have HE := hide (show glue acc (lexS (l.drop (k + 1)) 0 (k + 1) acc.length) = R by rw [← unhide HR, lex_blank hlt hb])
    clear hb
    go_wp2_with fail
    go_roundw
    case rel => exact ⟨acc, k + 1, by omega, by go_num, hacc, bel, OWN, HE⟩
    case measure => simp [intOf]; omega
  ·have HE := hide (show R = (acc, l.length, 0) by rw [← unhide HR, lex_end (by omega), glue_ok, show k = l.length by omega])
   go_wp2_with fail
   go_ret3
   exact ⟨lexRes_mk (unhide HE) (unhide OWN), bel⟩
end
section
theorem lexS_len (r : List UInt8) : ∀ k pos n, n ≤ 60 → (lexS r k pos n).1.length + n ≤ 60 := by
 induction r with
 | nil => intro k pos n h; simp only [lexS, List.length_nil]; omega
 | cons c r ih =>
  intro k pos n h
  cases k with
  | succ k => rw [lexS]; exact ih k _ _ h
  | zero =>
   rw [lexS]
   split
   ·exact ih 0 _ _ h
   ·split
    ·have hn := tokE_n (by assumption : tokE (c :: r) n = 0)
     have h1 := ih (tokN (c :: r) - 1) (pos + 1) (n + 1) (by omega)
     unfold consR
     split
     ·simp only [List.length_cons]; omega
     ·simp only [List.length_nil]; omega
    ·simp only [List.length_nil]; omega
theorem lexT_len (l : List UInt8) : (lexT l).1.length ≤ 60 := by
 unfold lexT
 split
 ·exact Nat.zero_le _
 ·have := lexS_len l 0 0 0 (by omega); omega
theorem rlex_all (l : List UInt8) (w : World) (hl : l.length ≤ 1000) :
  Calls Tryz.prog 37 #[.string ⟨l.toArray⟩] w fun e w' => LexRes w.heap.size (lexT l) e w' ∧ Below w.heap.size w w' := by
 by_cases h : 200 < l.length
 ·exact (rlex_long l w hl h).mono fun e w' ⟨h1, h2⟩ => ⟨h1, h2 ▸ Below.refl _ _⟩
 ·exact rlex_any l w (by omega)
end
section
variable {b : Nat} {a : Option Addr} {cap : Nat} {ts : List Tk}
def TakeRes (B : Nat) (X : XT × Int × Int × Int) (e : Ending) (w' : World) : Prop :=
 ∃ T : XT, e = .returned (.tuple #[T.val, .int .i64 X.2.1, .int .i64 X.2.2.1, .int .i64 X.2.2.2]) ∧ T.In (Fr B) w' ∧ T.bare = X.1
def Row (w : World) (a : Option Addr) (ts : List Tk) : Prop := ∀ i (h : i < ts.length), ∃ g, a = some ⟨g, 0, none⟩ ∧ Tok3 w g (i * 3) ts[i]
theorem Tok3.below {w w' : World} {g o : Nat} {t : Tk} (h : Tok3 w g o t) (k : Below w.heap.size w w') : Tok3 w' g o t := by
 obtain ⟨h0, h1, h2, h3⟩ := h
 exact ⟨Nat.lt_of_lt_of_le h0 k.size, kcell k h0 h1, kcell k h0 h2, kcell k h0 h3⟩
theorem Row.below {w w' : World} (h : Row w a ts) (k : Below w.heap.size w w') : Row w' a ts := fun i hi => by
 obtain ⟨g, h1, h2⟩ := h i hi
 exact ⟨g, h1, h2.below k⟩
theorem zX_bare : zX.bare = zX := by
 unfold zX XT.bare
 congr 1
end
section
theorem sgn_word (gs : List (List UInt8)) (hgs : ∀ g ∈ gs, wordB g = false) (r : List UInt8) : wordB (r.take (sgn gs r)) = false := by
 induction gs with
 | nil => rw [sgn]; rfl
 | cons g gs ih =>
  rw [sgn]
  split
  ·rename_i h
   unfold preB at h
   simp only [Bool.and_eq_true, beq_iff_eq] at h
   rw [h.2]
   exact hgs g (by simp)
  ·exact ih (fun x hx => hgs x (by simp [hx]))
theorem tok_good (r : List UInt8) : (tokT r).length ≤ r.length ∧ tokK r ≤ 4 ∧ (tokK r = 4 → wordB (tokT r) = false) := by
 refine ⟨?_, ?_, ?_⟩
 ·unfold tokT saidL
  split
  ·simp only [List.length_take, List.length_drop]; omega
  ·simp only [List.length_take]; omega
 ·unfold tokK
  split
  ·omega
  ·split
   ·omega
   split
   ·omega
   split
   ·split <;> omega
   ·split <;> omega
 ·intro h4
  have e : tokT r = r.take (sgn sgs r) := by
   unfold tokT saidL
   rw [h4, if_neg (by decide)]
   congr 1
   unfold tokK at h4
   unfold tokN
   cases r with
   | nil => cases h4
   | cons c r =>
    dsimp only at h4 ⊢
    split at h4
    ·cases h4
    rename_i h1
    rw [if_neg h1]
    split at h4
    ·cases h4
    rename_i h2
    rw [if_neg h2]
    split at h4
    ·split at h4 <;> cases h4
    rename_i h3
    rw [if_neg h3]
  rw [e]
  exact sgn_word sgs (by decide) r
theorem lexS_good (r : List UInt8) : ∀ k pos n, ∀ t ∈ (lexS r k pos n).1, t.2.1.length ≤ r.length ∧ t.1 ≤ 4 ∧ (t.1 = 4 → wordB t.2.1 = false) := by
 induction r with
 | nil => intro k pos n t ht; simp [lexS] at ht
 | cons c r ih =>
  intro k pos n t ht
  cases k with
  | succ k =>
   rw [lexS] at ht
   obtain ⟨h1, h2⟩ := ih k _ _ t ht
   exact ⟨by simp; omega, h2⟩
  | zero =>
   rw [lexS] at ht
   split at ht
   ·obtain ⟨h1, h2⟩ := ih 0 _ _ t ht
    exact ⟨by simp; omega, h2⟩
   ·split at ht
    ·unfold consR at ht
     split at ht
     ·rcases List.mem_cons.1 ht with rfl | ht
      ·dsimp only
       exact tok_good (c :: r)
      ·obtain ⟨h1, h2⟩ := ih _ _ _ t ht
       exact ⟨by simp; omega, h2⟩
     ·simp at ht
    ·simp at ht
theorem good_lex (l : List UInt8) (hl : l.length ≤ 1000) : GoodTs (lexT l).1 := by
 have h60 := lexT_len l
 refine ⟨by omega, fun k hk => ?_⟩
 have hm := List.getElem_mem hk
 have key : ∀ t ∈ (lexT l).1, GoodT t := by
  intro t ht
  unfold lexT at ht
  split at ht
  ·exact absurd ht List.not_mem_nil
  ·obtain ⟨h1, h3⟩ := lexS_good l 0 0 0 _ ht
   exact ⟨by omega, h3⟩
 exact key _ hm
end
section
variable {b : Nat} {a : Option Addr} {cap : Nat} {ts : List Tk} {en : Int}
structure Qd (b : Nat) (a : Option Addr) (cap : Nat) (ts : List Tk) (en : Int) (w : World) (k : Nat) (e p : Int) : Prop where
 lt : b < w.heap.size
 le : k ≤ ts.length
 c0 : w.cell? ⟨b, 0, none⟩ = some (.slice a ts.length cap)
 c1 : w.cell? ⟨b, 1, none⟩ = some (.int .i64 (k : Int))
 c2 : w.cell? ⟨b, 2, none⟩ = some (.int .i64 en)
 c3 : w.cell? ⟨b, 3, none⟩ = some (.int .i64 e)
 c4 : w.cell? ⟨b, 4, none⟩ = some (.int .i64 p)
 fr : ∀ o, w.frozen? ⟨b, o, none⟩ = false
 row : ∀ i (h : i < ts.length), ∃ g, a = some ⟨g, 0, none⟩ ∧ g ≠ b ∧ Tok3 w g (i * 3) ts[i]
theorem Qd.below {w w' : World} {k : Nat} {e p : Int} (h : Qd b a cap ts en w k e p) (hb : Below w.heap.size w w') : Qd b a cap ts en w' k e p :=
 ⟨Nat.lt_of_lt_of_le h.lt hb.size, h.le, kcell hb h.lt h.c0, kcell hb h.lt h.c1, kcell hb h.lt h.c2, kcell hb h.lt h.c3, kcell hb h.lt h.c4, fun o => kfroz hb h.lt (h.fr o), fun i hi => by
  obtain ⟨g, ha, hg, ht⟩ := h.row i hi
  exact ⟨g, ha, hg, ht.below hb⟩⟩
theorem Qd.alloc {w : World} {k : Nat} {e p : Int} (h : Qd b a cap ts en w k e p) (o : Obj) : Qd b a cap ts en (w.alloc o) k e p := h.below (below1 w o)
theorem Qd.drewN {w : World} {k : Nat} {e p : Int} (h : Qd b a cap ts en w k e p) (n : Nat) : Qd b a cap ts en (w.drewN n) k e p := h.below (below_dN (Below.refl _ _) n)
theorem Qd.drew {w : World} {k : Nat} {e p : Int} (h : Qd b a cap ts en w k e p) : Qd b a cap ts en w.drew k e p := h.below (Below.refl _ _).drew
theorem Qd.own {w w0 : World} {k k0 : Nat} {e p e0 p0 : Int} (h : Qd b a cap ts en w k e p) (h0 : Qd b a cap ts en w0 k0 e0 p0) {q : Addr} (hp : w0.heap.size ≤ q.block) (v : Value) : Qd b a cap ts en (w.setCell q v) k e p := by
 have ee : ∀ g, g ≠ q.block → (w.setCell q v).heap[g]? = w.heap[g]? := fun g hg => Below.heap_setCell _ _ _ _ hg
 have ec : ∀ g o, g ≠ q.block → (w.setCell q v).cell? ⟨g, o, none⟩ = w.cell? ⟨g, o, none⟩ := fun g o hg => World.cell?_of_block (w := w) (ee g hg)
 have hb := h0.lt
 have hn0 : b ≠ q.block := by omega
 refine ⟨by simpa [World.setCell] using h.lt, h.le, (ec b 0 hn0).trans h.c0, (ec b 1 hn0).trans h.c1, (ec b 2 hn0).trans h.c2, (ec b 3 hn0).trans h.c3, (ec b 4 hn0).trans h.c4, fun o => (World.frozen?_of_block (w := w) (ee b hn0)).trans (h.fr o), fun i hi => ?_⟩
 obtain ⟨g, hg, hb, t0, t1, t2, t3⟩ := h.row i hi
 obtain ⟨g', hg', -, s0, -⟩ := h0.row i hi
 obtain rfl : g = g' := by rw [hg] at hg'; simpa using hg'
 have hn : g ≠ q.block := by omega
 exact ⟨g, hg, hb, by simpa [World.setCell] using t0, (ec g _ hn).trans t1, (ec g _ hn).trans t2, (ec g _ hn).trans t3⟩
theorem Qd.own8 {w w0 : World} {k k0 : Nat} {e p e0 p0 : Int} (h : Qd b a cap ts en w k e p) (h0 : Qd b a cap ts en w0 k0 e0 p0) {r : Nat} (hr : w0.heap.size ≤ r) (v0 v1 v2 v3 v4 v5 v6 v7 : Value) : Qd b a cap ts en ((((((((w.setCell ⟨r, 0, none⟩ v0).setCell ⟨r, 1, none⟩ v1).setCell ⟨r, 2, none⟩ v2).setCell ⟨r, 3, none⟩ v3).setCell ⟨r, 4, none⟩ v4).setCell ⟨r, 5, none⟩ v5).setCell ⟨r, 6, none⟩ v6).setCell ⟨r, 7, none⟩ v7) k e p :=
 (((((((h.own h0 hr v0).own h0 hr v1).own h0 hr v2).own h0 hr v3).own h0 hr v4).own h0 hr v5).own h0 hr v6).own h0 hr v7
theorem Qd.put {w : World} {k k' : Nat} {e p : Int} (h : Qd b a cap ts en w k e p) (hk : k' ≤ ts.length) : Qd b a cap ts en (w.setCell ⟨b, 1, none⟩ (.int .i64 (k' : Int))) k' e p := by
 have m : Mv b w (w.setCell ⟨b, 1, none⟩ (.int .i64 (k' : Int))) := (Mv.refl b w).put 1 _
 obtain ⟨h0, h1, h2, h3, h4, h5, h6, h7, h8⟩ := h
 refine ⟨by simpa [World.setCell] using h0, hk, by go_simp, by go_simp, by go_simp, by go_simp, by go_simp, fun o => by go_simp, fun i hi => ?_⟩
 obtain ⟨g, ha, hg, ht⟩ := h8 i hi
 exact ⟨g, ha, hg, ht.mv hg m⟩
theorem Qd.err {w : World} {k : Nat} {e p e' p' : Int} (h : Qd b a cap ts en w k e p) : Qd b a cap ts en ((w.setCell ⟨b, 3, none⟩ (.int .i64 e')).setCell ⟨b, 4, none⟩ (.int .i64 p')) k e' p' := by
 have m : Mv b w ((w.setCell ⟨b, 3, none⟩ (.int .i64 e')).setCell ⟨b, 4, none⟩ (.int .i64 p')) := ((Mv.refl b w).put 3 _).put 4 _
 obtain ⟨h0, h1, h2, h3, h4, h5, h6, h7, h8⟩ := h
 refine ⟨by simpa [World.setCell] using h0, h1, by go_simp, by go_simp, by go_simp, by go_simp, by go_simp, fun o => by go_simp, fun i hi => ?_⟩
 obtain ⟨g, ha, hg, ht⟩ := h8 i hi
 exact ⟨g, ha, hg, ht.mv hg m⟩
theorem qhere_any (w : World) (k : Nat) (e p : Int) (R : Qd b a cap ts en w k e p) (hts : GoodTs ts) :
  Calls Tryz.prog 146 #[.pointer (some ⟨b, 0, none⟩)] w fun e w' => e = .returned (.int .i64 (posT ts k en)) ∧ Below w.heap.size w w' := by
 obtain ⟨hlt, hle, hc0, hc1, hc2, hc3, hc4, hfr, hrow⟩ := R
 have hn := hts.1
 clear hts
 by_cases hk : k < ts.length
 ·obtain ⟨g, rfl, hgb, h0, h1, h2, h3⟩ := hrow k hk
  clear hrow
  have HP := hide (show ((ts[k].2.2 : Nat) : Int) = posT ts k en by simp [posT, hk])
  generalize posT ts k en = P at *
  generalize ts[k] = t at *
  obtain ⟨tk, tt, tp⟩ := t
  dsimp only at h1 h2 h3 HP
  generalize ts.length = n at *
  go_enter Tryz.func146, Tryz.ntmps146
  go_wp2_with fail
  go_quiet (fail)
  go_wp2_with fail
  go_quiet (fail)
  go_wp2_with fail
  go_ret
  exact ⟨ret_int (unhide HP), zBL⟩
 ·have HP := hide (show en = posT ts k en by simp [posT, show ts.length ≤ k by omega])
  generalize posT ts k en = P at *
  clear hrow
  generalize ts.length = n at *
  go_enter Tryz.func146, Tryz.ntmps146
  go_wp2_with fail
  go_quiet (fail)
  go_wp2_with fail
  go_ret
  exact ⟨ret_int (unhide HP), zBL⟩
theorem fail_new (w : World) (k : Nat) (c : Int) (R : Qd b a cap ts en w k 0 0) (hts : GoodTs ts) :
  Calls Tryz.prog 131 #[.pointer (some ⟨b, 0, none⟩), .int .i64 c] w fun e w' => (∃ v, e = .returned v) ∧ Qd b a cap ts en w' k c (posT ts k en) ∧ Mv b w w' := by
 have HH := hide (qhere_any w k 0 0 R hts)
 have RR := hide R
 obtain ⟨hlt, hle, hc0, hc1, hc2, hc3, hc4, hfr, -⟩ := R
 go_enter Tryz.func131, Tryz.ntmps131
 go_wp2_with fail
 refine (unhide HH).mono ?_
 rintro e w1 ⟨rfl, b1⟩
 have R1 := (unhide RR).below b1
 have R1' := hide R1
 clear hlt hle hc0 hc1 hc2 hc3 hc4 hfr
 obtain ⟨hlt, hle, hc0, hc1, hc2, hc3, hc4, hfr, -⟩ := R1
 go_wp2_with fail
 go_end0
 exact ⟨⟨_, rfl⟩, (unhide R1').err, ((Mv.of_below b1).put 3 _).put 4 _⟩
theorem fail_old (w : World) (k : Nat) (c e p : Int) (he : (e != 0) = true) (R : Qd b a cap ts en w k e p) :
  Calls Tryz.prog 131 #[.pointer (some ⟨b, 0, none⟩), .int .i64 c] w fun x w' => (∃ v, x = .returned v) ∧ w' = w := by
 obtain ⟨hlt, hle, hc0, hc1, hc2, hc3, hc4, hfr, -⟩ := R
 have he' : (e == 0) = false := by simpa using he
 go_enter Tryz.func131, Tryz.ntmps131
 go_wp2_with fail
 go_end0
 exact ⟨⟨_, rfl⟩, rfl⟩
theorem mkB_q {k : Nat} {m : Mk} (hts : GoodTs ts) : mkB ts k m = (((tokAt ts k).2.1 == m) && (decide ((tokAt ts k).1 = 4) || (decide ((tokAt ts k).1 = 1) && wordB m))) := by
 rw [mkB_tok]
 have hg := (good_at hts k).2.2
 generalize tokAt ts k = t at *
 obtain ⟨tk, tt, tp⟩ := t
 dsimp only at hg ⊢
 by_cases hm : tt = m
 ·subst hm
  cases hw : wordB tt
  ·by_cases h4 : tk = 4 <;> simp [h4]
  ·have h4 : tk ≠ 4 := fun h => by rw [hg h] at hw; cases hw
   by_cases h1 : tk = 1 <;> simp [h1, h4]
 ·have : (tt == m) = false := by simpa using hm
  simp [this]
theorem qis_no (w : World) (k : Nat) (e p : Int) (m : Mk) (R : Qd b a cap ts en w k e p) (hts : GoodTs ts) (he : (e != 0) = true) :
  Calls Tryz.prog 133 #[.pointer (some ⟨b, 0, none⟩), .string ⟨m.toArray⟩] w fun x w' => x = .returned (.bool false) ∧ Below w.heap.size w w' := by
 obtain ⟨hlt, hle, hc0, hc1, hc2, hc3, hc4, hfr, -⟩ := R
 go_enter Tryz.func133, Tryz.ntmps133
 go_wp2_with fail
 go_quiet (fail)
 go_wp2_with fail
 go_ret
 exact ⟨rfl, zBL⟩
theorem qis_any (w : World) (k : Nat) (m : Mk) (R : Qd b a cap ts en w k 0 0) (hts : GoodTs ts) (hm : m.length ≤ 1000) :
  Calls Tryz.prog 133 #[.pointer (some ⟨b, 0, none⟩), .string ⟨m.toArray⟩] w fun x w' => x = .returned (.bool (mkB ts k m)) ∧ Below w.heap.size w w' := by
 have HM := hide (mkB_q (k := k) (m := m) hts)
 have HL := hide (fun h => mkB_lt (ts := ts) (k := k) (m := m) h)
 generalize mkB ts k m = M at *
 obtain ⟨hlt, hle, hc0, hc1, hc2, hc3, hc4, hfr, hrow⟩ := R
 have hn := hts.1
 by_cases hk : k < ts.length
 ·obtain ⟨g, rfl, hgb, h0, h1, h2, h3⟩ := hrow k hk
  have hgd := hts.2 k hk
  rw [tokAt_in hk] at HM
  have hkl : ¬ (ts.length : Int) ≤ (k : Int) := by omega
  have WD := hide (fun w => rword_any m w hm)
  generalize ts[k] = t at *
  obtain ⟨tk, tt, tp⟩ := t
  obtain ⟨g1, g2, -⟩ := hgd
  dsimp only at h1 h2 h3 HM g1 g2
  clear hrow hts
  generalize ts.length = n at *
  cases hte : (tt == m)
  ·have HE := hide (show false = M by rw [unhide HM, hte]; rfl)
   go_enter Tryz.func133, Tryz.ntmps133
   go_wp2_with fail
   go_quiet (fail)
   go_wp2_with fail
   have BV : Below w.heap.size w (w.drewN nq) := below_dN (Below.refl _ _) nq
   have zV := BV.size
   have lV : b < (w.drewN nq).heap.size := hlt
   have gV : g < (w.drewN nq).heap.size := h0
   have u0 : (w.drewN nq).cell? ⟨b, 0, none⟩ = _ := hc0
   have u1 : (w.drewN nq).cell? ⟨b, 1, none⟩ = _ := hc1
   have v1 : (w.drewN nq).cell? ⟨g, k * 3, none⟩ = _ := h1
   have v2 : (w.drewN nq).cell? ⟨g, k * 3 + 1, none⟩ = _ := h2
   have v3 : (w.drewN nq).cell? ⟨g, k * 3 + 2, none⟩ = _ := h3
   generalize w.drewN nq = V at *
   clear hlt h0 hc0 hc1 hc2 hc3 hc4 h1 h2 h3 hfr
   go_region
   all_goals
    go_wp2_with fail
    go_ret
    exact ⟨ret_bool (unhide HE), zBL⟩
  ·by_cases h4 : tk = 4
   ·subst h4
    have HE := hide (show true = M by rw [unhide HM, hte]; rfl)
    go_enter Tryz.func133, Tryz.ntmps133
    go_wp2_with fail
    go_quiet (fail)
    go_wp2_with fail
    have BV : Below w.heap.size w (w.drewN nq) := below_dN (Below.refl _ _) nq
    have zV := BV.size
    have lV : b < (w.drewN nq).heap.size := hlt
    have gV : g < (w.drewN nq).heap.size := h0
    have u0 : (w.drewN nq).cell? ⟨b, 0, none⟩ = _ := hc0
    have u1 : (w.drewN nq).cell? ⟨b, 1, none⟩ = _ := hc1
    have v1 : (w.drewN nq).cell? ⟨g, k * 3, none⟩ = _ := h1
    have v2 : (w.drewN nq).cell? ⟨g, k * 3 + 1, none⟩ = _ := h2
    have v3 : (w.drewN nq).cell? ⟨g, k * 3 + 2, none⟩ = _ := h3
    generalize w.drewN nq = V at *
    clear hlt h0 hc0 hc1 hc2 hc3 hc4 h1 h2 h3 hfr
    go_region
    all_goals
     go_wp2_with fail
     go_ret
     exact ⟨ret_bool (unhide HE), zBL⟩
   ·have e4 : ((tk : Int) == 4) = false := by simp; omega
    by_cases hk1 : tk = 1
    ·subst hk1
     have HE := hide (show wordB m = M by rw [unhide HM, hte]; simp)
     clear h4
     go_enter Tryz.func133, Tryz.ntmps133
     go_wp2_with fail
     go_quiet (fail)
     go_wp2_with fail
     have BV : Below w.heap.size w (w.drewN nq) := below_dN (Below.refl _ _) nq
     have zV := BV.size
     have lV : b < (w.drewN nq).heap.size := hlt
     have gV : g < (w.drewN nq).heap.size := h0
     have u0 : (w.drewN nq).cell? ⟨b, 0, none⟩ = _ := hc0
     have u1 : (w.drewN nq).cell? ⟨b, 1, none⟩ = _ := hc1
     have v1 : (w.drewN nq).cell? ⟨g, k * 3, none⟩ = _ := h1
     have v2 : (w.drewN nq).cell? ⟨g, k * 3 + 1, none⟩ = _ := h2
     have v3 : (w.drewN nq).cell? ⟨g, k * 3 + 2, none⟩ = _ := h3
     generalize w.drewN nq = V at *
     clear hlt h0 hc0 hc1 hc2 hc3 hc4 h1 h2 h3 hfr
     go_region
     all_goals
      go_wp2_with fail
      refine (unhide WD _).mono ?_
      rintro e w1 ⟨rfl, c1⟩
      go_wp2_with fail
      go_ret
      exact ⟨ret_bool (unhide HE), bstep (zBL) c1⟩
    ·have e1 : ((tk : Int) == 1) = false := by simp; omega
     have HE := hide (show false = M by rw [unhide HM, hte]; simp [h4, hk1])
     clear h4 hk1
     go_enter Tryz.func133, Tryz.ntmps133
     go_wp2_with fail
     go_quiet (fail)
     go_wp2_with fail
     have BV : Below w.heap.size w (w.drewN nq) := below_dN (Below.refl _ _) nq
     have zV := BV.size
     have lV : b < (w.drewN nq).heap.size := hlt
     have gV : g < (w.drewN nq).heap.size := h0
     have u0 : (w.drewN nq).cell? ⟨b, 0, none⟩ = _ := hc0
     have u1 : (w.drewN nq).cell? ⟨b, 1, none⟩ = _ := hc1
     have v1 : (w.drewN nq).cell? ⟨g, k * 3, none⟩ = _ := h1
     have v2 : (w.drewN nq).cell? ⟨g, k * 3 + 1, none⟩ = _ := h2
     have v3 : (w.drewN nq).cell? ⟨g, k * 3 + 2, none⟩ = _ := h3
     generalize w.drewN nq = V at *
     clear hlt h0 hc0 hc1 hc2 hc3 hc4 h1 h2 h3 hfr
     go_region
     all_goals
      go_wp2_with fail
      go_ret
      exact ⟨ret_bool (unhide HE), zBL⟩
 ·have HE := hide (show false = M by cases hM : M with
   | false => rfl
   | true => exact absurd (unhide HL hM) hk)
  have hkl : (ts.length : Int) ≤ (k : Int) := by omega
  clear hrow hts
  generalize ts.length = n at *
  go_enter Tryz.func133, Tryz.ntmps133
  go_wp2_with fail
  go_quiet (fail)
  go_wp2_with fail
  go_ret
  exact ⟨ret_bool (unhide HE), zBL⟩
end
end Go.Proofs.YtfdimdjmnfdecaaGreat
